/-
  What (sha.state).compress returns: a contract by a walk. Conditions: a block of 64 bytes; the package-level table of constants holds what the text lays.
-/
import Derived.Test.YtdgflobdnkopbaaDoorShaM
namespace Go.Proofs.YtdgflobdnkopbaaDoor
open Go.RowKit

/-- The table of constants, as the program's text lays it. -/
def Consts (w : World) : Prop := 0 < w.heap.size ∧ ∀ i, i < 64 → w.cell? ⟨0, i, none⟩ = some (wv (roundK.getD i 0))
theorem Consts.below {B : Nat} {w w' : World} (h : Consts w) (hb : Below B w w') (hB : 0 < B) : Consts w' :=
  ⟨Nat.lt_of_lt_of_le h.1 hb.size, fun i hi => (hb.cell hB).trans (h.2 i hi)⟩
theorem Consts.on {w w' : World} (h : Consts w) (hb : Below w.heap.size w w') : Consts w' := h.below hb h.1
theorem Consts.kept {w w' : World} {row : Option Nat} (h : Consts w) (hg : w.grownBy w' row) (hr : some 0 ≠ row) : Consts w' :=
  ⟨Nat.lt_of_lt_of_le h.1 hg.size, fun i hi => (World.cell?_of_block (hg.block _ h.1 hr)).trans (h.2 i hi)⟩
theorem Consts.drewN {w : World} (h : Consts w) (k : Nat) : Consts (w.drewN k) := h

def zeros8 : List Value := List.replicate 8 (.int .u32 0)
theorem zero_w8 : (Tryd.prog.info? 62).map (fun i => i.zero.map (·.cells)) = some (some zeros8.toArray) := by kernel_rfl
theorem w8_size (l : List Value) (h : l.length = 8) : (Tryd.prog.info? 62).map (·.size) = some l.length := by rw [h]; kernel_rfl
theorem wi_sum5 (a b c d e : UInt32) : (wi a + wi b + wi c + wi d + wi e) % 4294967296 = wi (a + b + c + d + e) := by
  rw [← wi_plus (a + b + c + d) e, ← wi_plus (a + b + c) d, ← wi_plus (a + b) c, ← wi_plus a b]
  omega
theorem wi_sum5b (v a b c d : UInt32) : (wi v + (wi a + wi b + wi c + wi d)) % 4294967296 = wi (v + (a + b + c + d)) := by
  rw [← wi_plus v (a + b + c + d), ← wi_plus (a + b + c) d, ← wi_plus (a + b) c, ← wi_plus a b]
  omega
theorem wi_not2 (x : UInt32) : bits .xor .u32 4294967295 (wi x) = wi (~~~x) := by
  unfold wi
  have hx := u32lt x
  have h : BitVec.ofInt 32 4294967295 ^^^ BitVec.ofInt 32 (x.toNat : Int) = ~~~ (BitVec.ofInt 32 (x.toNat : Int)) := by
    have e : BitVec.ofInt 32 4294967295 = BitVec.allOnes 32 := by decide
    rw [e, BitVec.allOnes_xor]
  show IntKind.u32.wrap ((BitVec.ofInt 32 4294967295 ^^^ BitVec.ofInt 32 (x.toNat : Int)).toNat : Int) = _
  rw [h, BitVec.toNat_not, ofInt_u32 _ hx, IntKind.wrap_u32', UInt32.toNat_not]
  show _ = ((4294967296 - 1 - x.toNat : Nat) : Int)
  omega
theorem wi_not (x : UInt32) : bits .xor .u32 IntKind.u32.max (wi x) = wi (~~~x) := by
  have e : IntKind.u32.max = 4294967295 := by decide
  rw [e, wi_not2]

theorem compr_eq (s : St) (b : List UInt8) (W : List UInt32) (h : W = sched b 48) : compr s b = s.plus (rounds W s 64) := by
  rw [h, compr]

set_option maxRecDepth 100000 in
set_option maxHeartbeats 2000000 in
theorem compress_any (s : St) (A : Option Addr) (c : Nat) (b : List UInt8) (w : World) (hk : Consts w) (hr : Reads w w.heap.size 1 A 64 (bvs b)) :
    Calls Tryd.prog 47 #[.agg (wvs s.list).toArray, .slice A 64 c] w (GivesV (.agg (wvs (compr s b).list).toArray) w) := by
  obtain ⟨sa, sb, sc, sd, se, sf, sg, sh⟩ := s
  go_enter Tryd.func47, Tryd.ntmps47
  go_wp2_with (first
    | (with_reducible refine wpList_box_row (o := ⟨some 2, _, _, _, _, _⟩) rfl _ _ rfl (wvs [sa, sb, sc, sd, se, sf, sg, sh]) rfl ?_; intro w1 hrow1 hs1 hg1)
    | (with_reducible refine wpList_alloc_row (o := ⟨some 4, _, _, _, _, _⟩) rfl _ rfl zeros8 zero_w8 ?_; intro w2 hrow2 hs2 hg2))
  have hb2 : Below w.heap.size w w2 := below_kept (grown_below hg1 (Nat.le_refl _) (by simp)) hg2 (by omega) (by simp)
  have hrS2 := hrow1.kept hg2 (by simp)
  clear hrow1 hg1 hg2
  refine (schedule_any A c b w2 ((hr.below hb2).more hb2.size)).mono ?_
  rintro e w3 ⟨rfl, hb3⟩
  have hrS3 := hrS2.on hb3
  have hrR3 := hrow2.on hb3
  have hbel3 := hb2.trans (hb3.mono hb2.size)
  have hs23 := hb3.size
  have hs22 := hrow2.lt
  clear hrS2 hrow2 hb3 hb2
  have HWL := Lib.hid (sched_len b 48)
  obtain ⟨W, hW⟩ : ∃ W, W = sched b 48 := ⟨_, rfl⟩
  rw [← hW] at HWL ⊢
  have HC := Lib.hid (compr_eq ⟨sa, sb, sc, sd, se, sf, sg, sh⟩ b W hW)
  clear hW
  go_wp2_with (first
    | (with_reducible refine wpList_alloc_row (o := ⟨some 5, _, _, _, _, _⟩) rfl _ rfl zeros64 zero_w64 ?_; intro w4 hrow4 hs4 hg4)
    | (with_reducible refine wpList_store_all (o := ⟨none, _, _, _, _, _⟩) rfl _ _ _ rfl w3.heap.size rfl _ _ hrow4 _ rfl (wvs_one _) (w64_zeros W HWL.out) (w64_size W HWL.out) ?_; intro w5 hrow5 hg5))
  have hrS5 := (hrS3.kept hg4 (by simp)).kept hg5 (by simp; omega)
  have hrR5 := (hrR3.kept hg4 (by simp)).kept hg5 (by simp; omega)
  have hbel5 := below_kept (below_kept hbel3 hg4 hbel3.size (by simp)) hg5 (by have := hbel3.size; omega) (by rintro k hk; cases hk; exact hbel3.size)
  clear hrS3 hrR3 hrow4 hg4 hg5 hbel3
  have h50 := hrS5.cell (j := 0) rfl
  have h51 := hrS5.cell (j := 1) rfl
  have h52 := hrS5.cell (j := 2) rfl
  have h53 := hrS5.cell (j := 3) rfl
  have h54 := hrS5.cell (j := 4) rfl
  have h55 := hrS5.cell (j := 5) rfl
  have h56 := hrS5.cell (j := 6) rfl
  have h57 := hrS5.cell (j := 7) rfl
  go_quiet (fail)
  clear h50 h51 h52 h53 h54 h55 h56 h57
  have hrS := hrS5.drewN nq
  have hrR := hrR5.drewN nq
  have hrW := hrow5.drewN nq
  have hbel := below_drewN hbel5 nq
  clear hrS5 hrR5 hrow5 hbel5
  generalize w5.drewN nq = w6 at *
  go_wp2_with fail
  go_loopg [6, 7, 8, 9, 10, 11, 12, 13, 14, 15, 16, 35] 64 (fun g s6 s7 s8 s9 s10 s11 s12 s13 s14 s15 s16 s35 wr => ∃ (i : Nat) (va vb vc vd ve vf vg vh : UInt32), Hid (i + g = 64) ∧ i ≤ 64 ∧ s35 = .int .i64 i ∧
    Hid (rounds W ⟨sa, sb, sc, sd, se, sf, sg, sh⟩ i = ⟨va, vb, vc, vd, ve, vf, vg, vh⟩) ∧ s6 = .int .u32 (wi va) ∧ s7 = .int .u32 (wi vb) ∧ s8 = .int .u32 (wi vc) ∧ s9 = .int .u32 (wi vd) ∧ s10 = .int .u32 (wi ve) ∧ s11 = .int .u32 (wi vf) ∧ s12 = .int .u32 (wi vg) ∧ s13 = .int .u32 (wi vh) ∧
    Row wr w.heap.size 62 (wvs [sa, sb, sc, sd, se, sf, sg, sh]) ∧ Row wr w1.heap.size 62 zeros8 ∧ Row wr w3.heap.size 70 (wvs W) ∧ Below w.heap.size w wr)
  case atStart => exact ⟨0, sa, sb, sc, sd, se, sf, sg, sh, rfl, by omega, rfl, rfl, rfl, rfl, rfl, rfl, rfl, rfl, rfl, rfl, hrS, hrR, hrW, hbel⟩
  case round =>
    obtain ⟨i, va, vb, vc, vd, ve, vf, vg, vh, HI, hi, rfl, HR, rfl, rfl, rfl, rfl, rfl, rfl, rfl, rfl, hrS, hrR, hrW, hbel⟩ := hrel
    by_cases hlt : i < 64
    · have hkr := (hk.on hbel).2 i hlt
      have hwr := hrW.cell (j := i) (u := wv (W.getD i 0)) (by
        have hl : i < W.length := by rw [HWL.out]; omega
        unfold wvs; rw [List.getElem?_map, List.getElem?_eq_getElem hl, List.getD, List.getElem?_eq_getElem hl]; rfl)
      have HN : Hid (rounds W ⟨sa, sb, sc, sd, se, sf, sg, sh⟩ (i + 1) = St.round ⟨va, vb, vc, vd, ve, vf, vg, vh⟩ (roundK.getD i 0) (W.getD i 0)) := by
        show _ = _
        rw [rounds, HR.out]
      generalize roundK.getD i 0 = rk at *
      generalize W.getD i 0 = rw at *
      unfold wv at hkr hwr
      have r1 := wi_xor
      have r2 := wi_plus
      have r3 := wi_and
      have r4 := wi_not
      go_wp2_with fail
      go_quiet ((go_at_call 51; exact Calls.quiet_of_same (rotr_any ve _ _ (by omega) (by omega))))
      have hrS := hrS.drewN nq
      have hrR := hrR.drewN nq
      have hrW := hrW.drewN nq
      have hbel := below_drewN hbel nq
      clear hkr hwr
      generalize wr.drewN nq = wr2 at *
      go_wp2_with (go_at_call 51; refine (rotr_any va _ _ (by omega) (by omega)).mono ?_; rintro e w' ⟨rfl, rfl⟩)
      clear r1 r2 r3 r4
      go_roundg (gk - 1)
      case measure => have := HI.out; omega
      case rel => exact ⟨i + 1, _, _, _, _, _, _, _, _, by have := HI.out; show _ = _; omega, by omega, by go_num, HN, congrArg (Value.int .u32) (wi_sum5 _ _ _ _ _), rfl, rfl, rfl, congrArg (Value.int .u32) (wi_sum5b _ _ _ _ _), rfl, rfl, rfl, hrS, hrR, hrW, hbel⟩
    · have HI64 : Hid (i = 64) := by show _ = _; omega
      rw [HI64.out] at HR
      have HC2 : Hid (compr ⟨sa, sb, sc, sd, se, sf, sg, sh⟩ b = ⟨sa + va, sb + vb, sc + vc, sd + vd, se + ve, sf + vf, sg + vg, sh + vh⟩) := by
        show _ = _
        rw [HC.out, HR.out, St.plus]
      have h50 := hrS.cell (j := 0) rfl
      have h51 := hrS.cell (j := 1) rfl
      have h52 := hrS.cell (j := 2) rfl
      have h53 := hrS.cell (j := 3) rfl
      have h54 := hrS.cell (j := 4) rfl
      have h55 := hrS.cell (j := 5) rfl
      have h56 := hrS.cell (j := 6) rfl
      have h57 := hrS.cell (j := 7) rfl
      unfold wv at h50 h51 h52 h53 h54 h55 h56 h57
      have r2 := wi_plus
      go_wp2_with (with_reducible refine wpList_store_all (o := ⟨none, _, _, _, _, _⟩) rfl _ _ _ rfl w1.heap.size rfl _ _ hrR (wvs [sa + va, sb + vb, sc + vc, sd + vd, se + ve, sf + vf, sg + vg, sh + vh]) rfl (wvs_one _) rfl (w8_size _ rfl) ?_; intro w7 hrow7 hg7)
      have hload := run_loadVar_at (P := Tryd.prog) w7 62 ⟨w1.heap.size, 0, none⟩ _ hrow7.cells _ Tryd.underlying62 rfl (w8_size _ rfl)
      exact bodyPost_ret (results_cell1 Tryd.results47 _ _ _ _ rfl hload) rfl ⟨by rw [HC2.out]; rfl, below_kept hbel hg7 hbel.size (by rintro k hk; cases hk; omega)⟩
end Go.Proofs.YtdgflobdnkopbaaDoor
