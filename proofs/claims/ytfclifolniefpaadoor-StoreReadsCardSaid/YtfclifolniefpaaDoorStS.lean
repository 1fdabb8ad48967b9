/-
  What the law file's get returns: a contract by a walk. Conditions: the table of constants as laid; sectors of bounded length.
-/
import Derived.Test.YtfclifolniefpaaDoorStI
import Derived.Test.YtfclifolniefpaaDoorStMU
import Derived.Test.YtfclifolniefpaaDoorStQA
import Derived.Test.YtfclifolniefpaaDoorFlG
import Derived.Deep.LoopGhost
set_option linter.unusedSimpArgs false
set_option linter.unusedVariables false
namespace Go.Proofs.YtfclifolniefpaaDoor
open Go.RowKit

def rl (fs : List ByteArray) (rec : Int) (k : Nat) : List StR := (stSecs fs rec k).map fun s => ⟨0, s⟩
theorem rl_s (fs : List ByteArray) (rec : Int) (k : Nat) : (rl fs rec k).map StR.s = stSecs fs rec k := by unfold rl; rw [List.map_map]; exact List.map_id _
theorem rl_len (fs : List ByteArray) (rec : Int) (k : Nat) : (rl fs rec k).length = k := by unfold rl; rw [List.length_map, stSecs_len]
theorem rl_succ (fs : List ByteArray) (rec : Int) (k : Nat) : rcs (rl fs rec (k + 1)) = rcs (rl fs rec k) ++ (⟨0, flRead fs (16 * rec + (k : Int))⟩ : StR).cs := by
  unfold rl rcs
  rw [stSecs_succ, List.map_append, List.flatMap_append]
  simp
theorem flRead_mem {fs : List ByteArray} {m : Nat} (h : ∀ s ∈ fs, s.size ≤ m) (k : Int) : (flRead fs k).size ≤ m := by
  unfold flRead
  split
  · rename_i hi
    obtain ⟨j, rfl, hj⟩ := flIn_iff.1 hi
    rw [flAt_nat (List.getElem?_eq_getElem hj)]
    exact h _ (List.getElem_mem hj)
  · show 0 ≤ m
    omega
theorem rl_sz {fs : List ByteArray} (h : ∀ s ∈ fs, s.size ≤ 400) (rec : Int) (k : Nat) : ∀ r ∈ rl fs rec k, r.s.size ≤ 400 := by
  intro r hr
  unfold rl stSecs at hr
  rw [List.map_map, List.mem_map] at hr
  obtain ⟨i, _, rfl⟩ := hr
  exact flRead_mem h _
theorem info_rs : (Tryd.prog.info? 55).map (fun i => (i.zero, i.size, i.bytes)) = some (some (.agg zeroR.toArray), 2, 24) := by kernel_rfl
theorem load_fl {w : World} {g : Nat} {e : TypeId} {A : Option Addr} {n c : Nat} (hr : Row w g e [.slice A n c]) : (loadVar 28 ⟨g, 0, none⟩).run Tryd.prog w = .ok (flv A n c) w := run_loadVar_at (P := Tryd.prog) w _ ⟨g, 0, none⟩ [.slice A n c] hr.cells _ Tryd.underlying28 rfl (by kernel_rfl)
theorem exec_loadFl {ρ : Operand → Value} {o : Oper} (w : World) (x : Operand) (ho : o.op = .load 28 x) (g : Nat) (hx : ρ x = .pointer (some ⟨g, 0, none⟩)) (A : Option Addr) (n c : Nat) {e : TypeId} (hr : Row w g e [.slice A n c]) :
    (execOp ρ o).run Tryd.prog w = .ok (.value (flv A n c)) w := exec_load w _ x ho ⟨g, 0, none⟩ hx [.slice A n c] hr.cells _ Tryd.underlying28 rfl (by kernel_rfl)
set_option maxRecDepth 100000 in
set_option maxHeartbeats 4000000 in
theorem lget_any (A : Option Addr) (n c : Nat) (fs : List ByteArray) (rec : Int) (w : World) (hin : stIn rec = true) (hK : Consts w) (hok : FlOK w A n c fs) (hsz : ∀ s ∈ fs, s.size ≤ 400) :
    Calls Tryd.prog 11 #[flv A n c, .int .i64 rec] w (fun e w' => e = .returned (.tuple #[(stSt fs rec).v, .int .i64 16]) ∧ Below w.heap.size w w') := by
  obtain ⟨i0, hi0, hz0, hz1, hz2⟩ := info_parts info_rs
  have HG : ∀ (k : Nat) (A6 : Option Addr) (c6 : Nat) (W : World), Below w.heap.size w W → Reads W W.heap.size 2 A6 k (rcs (rl fs rec k)) → k ≤ c6 → k ≤ 1000 → Hid (Calls Tryd.prog 19 #[.int .i64 rec, .slice A6 k c6] W (GivesS (stGet rec (stSecs fs rec k)) W)) := fun k A6 c6 W hW hr hc hk => by
    have h := sget_any rec A6 k c6 (rl fs rec k) W (hK.on hW) hr hc hk (rl_sz hsz rec k)
    rw [rl_s] at h
    exact Lib.hid h
  have HRD := fun (k : Int) (W : World) (hW : Below w.heap.size w W) => Lib.hid (lread_any A n c fs k W (hok.on hW))
  unfold flv at *
  go_enter Tryd.func11, Tryd.ntmps11
  go_wp2_with (first
    | ((with_reducible refine wpList_at ⟨some 2, _, _, _, _, _⟩ ?_); refine wpList_box_row rfl _ _ rfl [.slice A n c] rfl ?_; intro w1 r2_1 s1 g1; have k1 : Below w.heap.size w w1 := grown_below g1 (Nat.le_refl _) (by simp); have B1 : Below w.heap.size w w1 := k1; have cr20 := r2_1.cell (j := 0) rfl)
    | (with_reducible refine wpList_alloc_row (o := ⟨some 4, _, _, _, _, _⟩) rfl _ rfl zeroO zero_so ?_; intro w2 z4_2 s2 g2; have k2 : Below w1.heap.size w1 w2 := grown_below g2 (Nat.le_refl _) (by simp); have B2 := B1.trans (k2.mono B1.size); have r2_2 := r2_1.on k2; clear r2_1))
  go_loopg [6, 12] 16 (fun g s6 s12 wr => ∃ k : Nat, Hid (k + g = 16) ∧ k ≤ 16 ∧ s12 = .int .i64 (k : Int) ∧ wr.ownsRow w.heap.size 55 2 s6 k (rcs (rl fs rec k)) ∧ Row wr (w.heap.size) 28 [.slice A n c] ∧ Row wr (w1.heap.size) 33 zeroO ∧ Below w.heap.size w wr)
  case atStart => exact ⟨0, by show _ = _; omega, by omega, rfl, World.ownsRow_nil _ _ _ _, r2_2, z4_2, B2⟩
  case round =>
    obtain ⟨k, HK, hk, rfl, ow, r2, z4, hB⟩ := hrel
    obtain ⟨A6, c6, rfl, hc6, hm6, d6⟩ := own_form ow
    have HGG := HG k A6 c6 wr hB d6 hc6 (by omega)
    have l2 := r2.lt
    have l4 := z4.lt
    have lB := hB.size
    by_cases hlt : k < 16
    · rw [stGet_read hin hlt] at HGG
      have HRR := HRD (16 * rec + (k : Int))
      have HS := Lib.hid (rl_succ fs rec k)
      obtain ⟨s, hs⟩ : ∃ s, s = flRead fs (16 * rec + (k : Int)) := ⟨_, rfl⟩
      rw [← hs] at HRR
      rw [← hs] at HS
      clear hs
      go_wp2_with fail
      refine (HGG.out).mono ?_
      rintro e w51 ⟨rfl, h51⟩
      have B51 := hB.trans (h51.mono hB.size)
      have r2_51 := r2.on h51
      have z4_51 := z4.on h51
      have ow_51 := own_below ow h51
      have sz51 := h51.size
      go_wp2_with (first
        | (with_reducible refine wpList_alloc_row (o := ⟨some 7, _, _, _, _, _⟩) rfl _ rfl zeroA zero_ac ?_; intro w52 r52 s52 g52)
        | (with_reducible refine wpList_alloc_row (o := ⟨some 8, _, _, _, _, _⟩) rfl _ rfl zeroO zero_so ?_; intro w53 r53 s53 g53; have q53 := r52.kept g53 (by simp); have k53 := below_kept (grown_below g52 (Nat.le_refl _) (by simp)) g53 (Nat.le_of_lt s52) (by simp))
        | ((with_reducible refine wpList_at ⟨none, .store _ (.tmp 7) _, _, _, _, _⟩ ?_); refine wpList_store_all rfl _ _ _ rfl w51.heap.size rfl _ _ q53 ((stRead rec k).cs) rfl ((stRead rec k).cs_one) rfl (by kernel_rfl) ?_; intro w54 t54 g54; have q54 := r53.kept g54 (by simp; omega); have k54 := below_kept k53 g54 k53.size (by rintro q hq; cases hq; exact Nat.le_refl _))
        | ((with_reducible refine wpList_at ⟨none, .store _ (.tmp 8) _, _, _, _, _⟩ ?_); refine wpList_store_all rfl _ _ _ rfl w52.heap.size rfl _ _ q54 (noO.cs) rfl (noO.cs_one) rfl (by kernel_rfl) ?_; intro w55 o8_55 g55; have k55 : Below w51.heap.size w51 w55 := below_kept k54 g55 k54.size (by rintro q hq; cases hq; exact Nat.le_of_lt s52); have a7_55 := t54.kept g55 (by simp; omega); have B55 := B51.trans (k55.mono B51.size); have r2_55 := r2_51.on k55; have z4_55 := z4_51.on k55; have ow_55 := own_below ow_51 k55; clear r2_51 z4_51 ow_51; have s55 := a7_55.lt; have v55 := o8_55.lt; clear r52 r53 q53 q54 t54 g52 g53 g54 g55 k53 k54; have ca70 := a7_55.cell (j := 0) rfl; have ca71 := a7_55.cell (j := 1) rfl; have ca72 := a7_55.cell (j := 2) rfl; have ca73 := a7_55.cell (j := 3) rfl)
        | ((with_reducible refine wpList_at ⟨some 26, _, _, _, _, _⟩ ?_); refine wpList_valueG rfl _ (by exact exec_loadFl _ _ rfl (w.heap.size) rfl A n c r2_55) ?_))
      refine ((HRR _ B55).out).mono ?_
      rintro e w56 ⟨rfl, h56⟩
      have B56 := B55.trans (h56.mono B55.size)
      have r2_56 := r2_55.on h56
      have z4_56 := z4_55.on h56
      have ow_56 := own_below ow_55 h56
      have a7_56 := a7_55.on h56
      have o8_56 := o8_55.on h56
      clear r2_55 z4_55 ow_55 a7_55 o8_55
      have ca70 := a7_56.cell (j := 0) rfl
      have ca71 := a7_56.cell (j := 1) rfl
      have ca72 := a7_56.cell (j := 2) rfl
      have ca73 := a7_56.cell (j := 3) rfl
      go_wp2_with (first
        | (refine wpList_valueW (o := ⟨some 35, _, _, _, _, _⟩) rfl _ (by exact exec_slice1 _ 51 55 _ rfl Tryd.underlying51 i0 _ hi0 hz0 (⟨0, s⟩ : StR).cs (by rw [hz1]; rfl) (by show 0 < 2; decide) (by show 2 ≤ 1000; decide) rfl) ?_)
        | (at_builtin; have bx : Below w56.heap.size w56 (w56.alloc (.cells (⟨0, s⟩ : StR).cs.toArray 55)) := (Below.refl _ _).alloc (Nat.le_refl _) _; have owx := own_below ow_56 bx; have r2x := r2_56.on bx; have z4x := z4_56.on bx; have a7x := a7_56.on bx; refine wpList_append_at9 rfl (.tmp 32) (.tmp 35) _ _ rfl w.heap.size 55 i0 _ 2 24 Tryd.underlying51 hi0 hz0 hz1 hz2 rfl _ _ _ rfl owx 1 (⟨0, s⟩ : StR).cs (boxRow9 Tryd.underlying51 _ _ _ 2 rfl (StR.cs_one _) _) (by unfold maxLen; omega) (by omega) (by have := r2x.lt; omega) ?_; intro vA wA owA gA obA; have r2A := r2x.kept gA (r2x.not_row7 (by decide) owx); have z4A := z4x.kept gA (z4x.not_row7 (by decide) owx); have a7A := a7x.kept gA (a7x.not_row7 (by decide) owx); have ca0 := a7A.cell (j := 0) rfl; have BA := below_kept (B56.trans (bx.mono B56.size)) gA (Nat.le_trans B56.size bx.size) (by intro q hq; exact (owx.lt q hq).1)))
      go_roundg (gk - 1)
      case measure => have := HK.out; omega
      case rel => exact ⟨k + 1, by have := HK.out; show _ = _; omega, by omega, by go_num, by rw [HS.out]; exact owA, r2A, z4A, BA⟩
    · obtain rfl : k = 16 := by omega
      rw [stGet_end hin] at HGG
      go_wp2_with fail
      refine (HGG.out).mono ?_
      rintro e w51 ⟨rfl, h51⟩
      have B51 := hB.trans (h51.mono hB.size)
      have r2_51 := r2.on h51
      have z4_51 := z4.on h51
      have ow_51 := own_below ow h51
      have sz51 := h51.size
      go_wp2_with (first
        | (with_reducible refine wpList_alloc_row (o := ⟨some 7, _, _, _, _, _⟩) rfl _ rfl zeroA zero_ac ?_; intro w52 r52 s52 g52)
        | (with_reducible refine wpList_alloc_row (o := ⟨some 8, _, _, _, _, _⟩) rfl _ rfl zeroO zero_so ?_; intro w53 r53 s53 g53; have q53 := r52.kept g53 (by simp); have k53 := below_kept (grown_below g52 (Nat.le_refl _) (by simp)) g53 (Nat.le_of_lt s52) (by simp))
        | ((with_reducible refine wpList_at ⟨none, .store _ (.tmp 7) _, _, _, _, _⟩ ?_); refine wpList_store_all rfl _ _ _ rfl w51.heap.size rfl _ _ q53 (noA.cs) rfl (noA.cs_one) rfl (by kernel_rfl) ?_; intro w54 t54 g54; have q54 := r53.kept g54 (by simp; omega); have k54 := below_kept k53 g54 k53.size (by rintro q hq; cases hq; exact Nat.le_refl _))
        | ((with_reducible refine wpList_at ⟨none, .store _ (.tmp 8) _, _, _, _, _⟩ ?_); refine wpList_store_all rfl _ _ _ rfl w52.heap.size rfl _ _ q54 ((stSt fs rec).cs) rfl ((stSt fs rec).cs_one) rfl (by kernel_rfl) ?_; intro w55 o8_55 g55; have k55 : Below w51.heap.size w51 w55 := below_kept k54 g55 k54.size (by rintro q hq; cases hq; exact Nat.le_of_lt s52); have a7_55 := t54.kept g55 (by simp; omega); have B55 := B51.trans (k55.mono B51.size); have r2_55 := r2_51.on k55; have z4_55 := z4_51.on k55; have ow_55 := own_below ow_51 k55; clear r2_51 z4_51 ow_51; have s55 := a7_55.lt; have v55 := o8_55.lt; clear r52 r53 q53 q54 t54 g52 g53 g54 g55 k53 k54)
        | ((with_reducible refine wpList_at ⟨some 22, _, _, _, _, _⟩ ?_); refine wpList_valueG rfl _ (by exact exec_loadO _ _ rfl (w52.heap.size) rfl (stSt fs rec) o8_55) ?_)
        | ((with_reducible refine wpList_at ⟨none, .store _ (.tmp 4) _, _, _, _, _⟩ ?_); refine wpList_store_all rfl _ _ _ rfl (w1.heap.size) rfl _ _ z4_55 ((stSt fs rec).cs) rfl ((stSt fs rec).cs_one) rfl (by kernel_rfl) ?_; intro w56 z4_56 g56; have r2_56 := r2_55.kept g56 (by simp; omega); have ow_56 := ow_55.kept g56 (.inr (z4_55.not_row7 (by decide) ow_55).symm); have a7_56 := a7_55.kept g56 (by simp; omega); have o8_56 := o8_55.kept g56 (by simp; omega); have B56 := below_kept B55 g56 B55.size (by rintro q hq; cases hq; omega); clear r2_55 ow_55 a7_55 o8_55))
      exact bodyPost_ret (results_cellE Tryd.results11 _ _ _ _ rfl (load_so z4_56)) rfl ⟨rfl, B56⟩
end Go.Proofs.YtfclifolniefpaaDoor
