/-
  What the law's Cells and Fault of the reference return: contracts by walks. Condition: the slice's length.
-/
import Derived.Test.YtfcbcclcmgheeaaRtU
import Derived.Test.YtfcbcclcmgheeaaDvR1
import Derived.Test.YtfcbcclcmgheeaaDvR2
set_option linter.unusedSimpArgs false
set_option linter.unusedVariables false
namespace Go.Proofs.Ytfcbcclcmgheeaa
open Go.RowKit

theorem info_u811 : (Try.prog.info? 5).map (fun i => (i.zero, i.size, i.bytes)) = some (some (.int .u8 0), 1, 1) := by kernel_rfl
/-- Fuses with one bank, and the number of bits; the fuses are the call's own. -/
def GivesK (cs : List UInt8) (bits : Nat) (w : World) (e : Ending) (w' : World) : Prop :=
  ∃ (A : Option Addr) (c : Nat) (ps : List Part), e = .returned (.tuple #[fuv A 1 c, .int .i64 (bits : Int)]) ∧ FuOK w' A 1 c ps ∧ bk ps = [cs] ∧ FuIn (fun b => w.heap.size ≤ b) A 1 ps ∧ Below w.heap.size w w'
def stkN (l : List UInt8) (b : Nat) : Nat → Nat
  | 0 => 0
  | i + 1 => stkN l b i + (if (cl l (3 * b + i)).toNat % 4 = 3 then 1 else 0)
theorem stkN_le (l : List UInt8) (b : Nat) : ∀ i, stkN l b i ≤ i
  | 0 => Nat.le_refl _
  | i + 1 => by have := stkN_le l b i; rw [stkN]; split <;> omega
theorem mod4_3 (s : UInt8) : (s % 4 = 3) ↔ (s.toNat % 4 = 3) := by
  constructor
  · intro h
    have h1 : (s % 4).toNat = 3 := by rw [h]; rfl
    rw [UInt8.toNat_mod] at h1
    exact h1
  · intro h
    refine UInt8.toNat.inj ?_
    rw [UInt8.toNat_mod]
    exact h
theorem stkN_3 (l : List UInt8) (b : Nat) : stkN l b 3 = rtStk l b := by
  unfold rtStk
  simp only [mod4_3]
  simp [stkN]
theorem rtC_val (l : List UInt8) (sound : Bool) (b i : Nat) (hi : i < 3) : ((rtC l sound (3 * b + i)).toNat : Int) = if sound && decide (1 < stkN l b 3) then 0 else (((cl l (3 * b + i)).toNat % 4 : Nat) : Int) := by
  unfold rtC
  rw [show (3 * b + i) / 3 = b by omega, ← stkN_3]
  split
  · rfl
  · rw [UInt8.toNat_mod]; rfl
set_option maxRecDepth 100000 in
set_option maxHeartbeats 4000000 in
theorem cells11_any (A : Option Addr) (n c : Nat) (l : List UInt8) (sound : Bool) (w : World) (hr : Reads w w.heap.size 1 A n (bvs l)) (hn : n ≤ 1000000) :
    Calls Try.prog 15 #[.slice A n c, .bool sound] w (GivesK (rtCells l sound) (rtBits l) w) := by
  obtain ⟨i0, hi0, hz0, hz1, hz2⟩ := info_parts info_u811
  have hln := hr.bytes_len
  obtain ⟨bits, hbits⟩ : ∃ bits, bits = rtBits l := ⟨_, rfl⟩
  have hb16 := rtBits_le l
  have hbn : 3 * bits ≤ n := by rw [hbits]; unfold rtBits; omega
  have HCL : ∀ k, k < n → ∃ ad, A = some ad ∧ ad.block < w.heap.size ∧ w.cell? (ad.add k) = some (.int .u8 ((cl l k).toNat : Int)) := fun k hk => by
    obtain ⟨ad, h1, h2, h3⟩ := hr.byte_at (cl_get (by omega : k < l.length))
    exact ⟨ad, h1, h2, h3⟩
  have HBI : Hid (bits = min (n / 3) 16) := Lib.hid (by rw [hbits, ← hln]; rfl)
  have HV := fun b i hi => Lib.hid (rtC_val l sound b i hi)
  have HSU := fun m => Lib.hid (rtCs_succ l sound m)
  have HSL := fun b i => Lib.hid (stkN_le l b i)
  have HSK : ∀ b i v, (cl l (3 * b + i)).toNat = v → Hid (stkN l b (i + 1) = stkN l b i + (if v % 4 = 3 then 1 else 0)) := fun b i v h => Lib.hid (by rw [stkN, h])
  have HVL : ∀ k, (cl l k).toNat ≤ 255 := fun k => by have := (cl l k).toNat_lt; omega
  unfold rtCells
  rw [← hbits] at hb16 ⊢
  clear hbits hr
  by_cases hbig : 16 < n / 3
  · obtain rfl : bits = 16 := by rw [HBI.out]; omega
    have hq : (16 : Int) < (n : Int) / 3 := by omega
    go_enter Try.func15, Try.ntmps15
    go_wp2_with (with_reducible refine wpList_alloc_row (o := ⟨some 4, _, _, _, _, _⟩) rfl _ rfl zeroF zero_fu ?_; intro w1 z1 s1 g1; have b1 := grown_below g1 (Nat.le_refl _) (by simp))
    clear hq
    go_loopg [7, 8] 16 (fun gh s7 s8 wr => ∃ b : Nat, Hid (b + gh = 16) ∧ b ≤ 16 ∧ s8 = .int .i64 (b : Int) ∧ wr.ownsRow w1.heap.size 5 1 s7 (3 * b) (bvs (rtCs l sound (3 * b))) ∧ Below w1.heap.size w1 wr)
    case atStart => exact ⟨0, by show _ = _; omega, by omega, rfl, World.ownsRow_nil _ _ _ _, Below.refl _ _⟩
    case round =>
      obtain ⟨b, HB, hb, rfl, ow, hB⟩ := hrel
      obtain ⟨g0, hg0⟩ : ∃ g0 : Nat, g0 = gk := ⟨_, rfl⟩
      have HG0 := Lib.hid hg0
      clear hg0
      by_cases hlt : b < 16
      · have q1 : decide ((b : Int) < 16) = true := decide_eq_true (by omega)
        have HLT := Lib.hid hlt
        have hb1 : 3 * b + 3 ≤ n := by omega
        clear hlt
        go_wp2_with fail
        go_loopg [9, 10] 3 (fun gh s9 s10 wi => ∃ i : Nat, Hid (i + gh = 3) ∧ i ≤ 3 ∧ s10 = .int .i64 (i : Int) ∧ s9 = .int .i64 (stkN l b i : Int) ∧ wi = wr)
        case atStart => exact ⟨0, by show _ = _; omega, by omega, rfl, rfl, rfl⟩
        case round =>
          obtain ⟨i, HI, hi, rfl, rfl, rfl⟩ := hrel
          by_cases hli : i < 3
          · obtain ⟨ad, rfl, hlta, hcl⟩ := HCL (3 * b + i) (by omega)
            have hc1 := (hB.cell (p := ad.add (3 * b + i)) (by rw [block_of_add]; omega)).trans ((b1.cell (p := ad.add (3 * b + i)) (by rw [block_of_add]; exact hlta)).trans hcl)
            obtain ⟨v, hv⟩ : ∃ v, v = (cl l (3 * b + i)).toNat := ⟨_, rfl⟩
            have HS := HSK b i v hv.symm
            have hv255 := HVL (3 * b + i)
            rw [← hv] at hc1 hv255
            have hx : 3 * b + i < n := by omega
            have hsl := (HSL b i).out
            obtain ⟨Z, hZ⟩ : ∃ Z, Z = stkN l b i := ⟨_, rfl⟩
            rw [← hZ] at HS hsl ⊢
            clear hcl HSK HCL HV HSU HSL HVL hZ hv
            by_cases h3 : v % 4 = 3
            · have HT : Hid (Z + (if v % 4 = 3 then 1 else 0) = Z + 1) := Lib.hid (by rw [if_pos h3])
              have q3 : ((v : Int) % 4 == 3) = true := by simp; omega
              clear h3
              go_wp2_with fail
              go_roundg (gk - 1)
              case measure => have := HI.out; omega
              case rel => exact ⟨i + 1, by have := HI.out; show _ = _; omega, by omega, by go_num, by rw [HS.out, HT.out]; go_num, rfl⟩
            · have HT : Hid (Z + (if v % 4 = 3 then 1 else 0) = Z) := Lib.hid (by rw [if_neg h3]; rfl)
              have q3 : ((v : Int) % 4 == 3) = false := by simp; omega
              clear h3
              go_wp2_with fail
              go_roundg (gk - 1)
              case measure => have := HI.out; omega
              case rel => exact ⟨i + 1, by have := HI.out; show _ = _; omega, by omega, by go_num, by rw [HS.out, HT.out], rfl⟩
          · have h3i : i = 3 := by omega
            have HI3 := Lib.hid h3i
            have q2 : decide ((i : Int) < 3) = false := decide_eq_false (by omega)
            have hsl := (HSL b i).out
            obtain ⟨Z, hZ⟩ : ∃ Z, Z = stkN l b i := ⟨_, rfl⟩
            have HVB : ∀ k, k < 3 → Hid (((rtC l sound (3 * b + k)).toNat : Int) = if sound && decide (1 < Z) then 0 else (((cl l (3 * b + k)).toNat % 4 : Nat) : Int)) := fun k hk => Lib.hid (by rw [hZ, h3i]; exact (HV b k hk).out)
            rw [← hZ] at hsl ⊢
            clear hli h3i HI
            clear HSK HV HSL hZ
            go_wp2_with fail
            go_loopg [7, 11] 3 (fun gh s7 s11 wj => ∃ i : Nat, Hid (i + gh = 3) ∧ i ≤ 3 ∧ s11 = .int .i64 (i : Int) ∧ wj.ownsRow w1.heap.size 5 1 s7 (3 * b + i) (bvs (rtCs l sound (3 * b + i))) ∧ Below w1.heap.size w1 wj)
            case atStart => exact ⟨0, by show _ = _; omega, by omega, rfl, ow, hB⟩
            case round =>
              obtain ⟨i, HI, hi, rfl, oj, hB2⟩ := hrel
              by_cases hli : i < 3
              · obtain ⟨ad, rfl, hlta, hcl⟩ := HCL (3 * b + i) (by omega)
                have hc1 := (hB2.cell (p := ad.add (3 * b + i)) (by rw [block_of_add]; omega)).trans ((b1.cell (p := ad.add (3 * b + i)) (by rw [block_of_add]; exact hlta)).trans hcl)
                have HVI := HVB i hli
                have HSI := HSU (3 * b + i)
                obtain ⟨v, hv⟩ : ∃ v, v = (cl l (3 * b + i)).toNat := ⟨_, rfl⟩
                have hv255 := HVL (3 * b + i)
                rw [← hv] at hc1 hv255 HVI
                have hx : 3 * b + i < n := by omega
                obtain ⟨R, hR⟩ : ∃ R, R = rtC l sound (3 * b + i) := ⟨_, rfl⟩
                rw [← hR] at HVI HSI
                clear hcl HCL HVB HSU HVL hv hR
                cases sound with
                | false =>
                  have HE : Hid (Value.int .u8 ((v : Int) % 4) = bv R) := Lib.hid (by show _ = Value.int .u8 (R.toNat : Int); rw [HVI.out]; rfl)
                  go_wp2_with (at_builtin; refine wpList_append_src _ rfl (.tmp 55) (.tmp 57) _ _ rfl w1.heap.size 5 i0 _ 1 1 Try.underlying35 hi0 hz0 hz1 hz2 rfl _ _ _ rfl (oj.alloc _) 1 _ (Src.box Try.underlying35 _ _ _ rfl _) (by unfold maxLen; omega) (by omega) (by have := hB2.size; simp; omega) ?_; intro v2 w2 hown2 hbel2)
                  rw [HE.out] at hown2
                  go_roundg (gk - 1)
                  case measure => have := HI.out; omega
                  case rel => exact ⟨i + 1, by have := HI.out; show _ = _; omega, by omega, by go_num, by rw [show 3 * b + (i + 1) = 3 * b + i + 1 from rfl, HSI.out, bvs_append]; exact hown2, hB2.trans (((Below.refl _ _).alloc hB2.size _).trans hbel2)⟩
                | true =>
                  by_cases hz : 1 < Z
                  · have HE : Hid (Value.int .u8 0 = bv R) := Lib.hid (by show _ = Value.int .u8 (R.toNat : Int); rw [HVI.out, decide_eq_true hz]; rfl)
                    clear HVI
                    go_wp2_with (at_builtin; refine wpList_append_src _ rfl (.tmp 55) (.tmp 57) _ _ rfl w1.heap.size 5 i0 _ 1 1 Try.underlying35 hi0 hz0 hz1 hz2 rfl _ _ _ rfl (oj.alloc _) 1 _ (Src.box Try.underlying35 _ _ _ rfl _) (by unfold maxLen; omega) (by omega) (by have := hB2.size; simp; omega) ?_; intro v2 w2 hown2 hbel2)
                    rw [HE.out] at hown2
                    go_roundg (gk - 1)
                    case measure => have := HI.out; omega
                    case rel => exact ⟨i + 1, by have := HI.out; show _ = _; omega, by omega, by go_num, by rw [show 3 * b + (i + 1) = 3 * b + i + 1 from rfl, HSI.out, bvs_append]; exact hown2, hB2.trans (((Below.refl _ _).alloc hB2.size _).trans hbel2)⟩
                  · have HE : Hid (Value.int .u8 ((v : Int) % 4) = bv R) := Lib.hid (by show _ = Value.int .u8 (R.toNat : Int); rw [HVI.out, decide_eq_false hz]; rfl)
                    clear HVI
                    go_wp2_with (at_builtin; refine wpList_append_src _ rfl (.tmp 55) (.tmp 57) _ _ rfl w1.heap.size 5 i0 _ 1 1 Try.underlying35 hi0 hz0 hz1 hz2 rfl _ _ _ rfl (oj.alloc _) 1 _ (Src.box Try.underlying35 _ _ _ rfl _) (by unfold maxLen; omega) (by omega) (by have := hB2.size; simp; omega) ?_; intro v2 w2 hown2 hbel2)
                    rw [HE.out] at hown2
                    go_roundg (gk - 1)
                    case measure => have := HI.out; omega
                    case rel => exact ⟨i + 1, by have := HI.out; show _ = _; omega, by omega, by go_num, by rw [show 3 * b + (i + 1) = 3 * b + i + 1 from rfl, HSI.out, bvs_append]; exact hown2, hB2.trans (((Below.refl _ _).alloc hB2.size _).trans hbel2)⟩
              · obtain rfl : i = 3 := by omega
                clear HVB
                go_wp2_with fail
                go_roundg (g0 - 1)
                case measure => have := HB.out; have := HG0.out; have := HLT.out; omega
                case rel => exact ⟨b + 1, by have := HB.out; have := HG0.out; have := HLT.out; show _ = _; omega, by have := HLT.out; omega, by go_num, oj, hB2⟩
      · have hbb : b = 16 := by omega
        have HBB := Lib.hid hbb
        clear hbb
        obtain ⟨A7, c7, rfl, hc7, hm7, d7⟩ := own_form ow
        have hblk := own_block ow
        have sB := hB.size
        have zr := z1.below hB s1
        have ba : Below wr.heap.size wr (wr.alloc (.cells #[.slice A7 (3 * b) c7] 35)) := (Below.refl _ _).alloc (Nat.le_refl _) _
        have ra : Row (wr.alloc (.cells #[.slice A7 (3 * b) c7] 35)) wr.heap.size 35 [.slice A7 (3 * b) c7] := row_alloc wr _ [.slice A7 (3 * b) c7]
        have sba := ba.size
        go_wp2_with ((with_reducible refine wpList_at ⟨none, .store _ (.tmp 4) _, _, _, _, _⟩ ?_); refine wpList_store_all rfl _ _ _ rfl w.heap.size rfl _ _ (zr.on ba) [.slice (some ⟨wr.heap.size, 0, none⟩) 1 1] rfl (slice_one _ _ _) rfl (by kernel_rfl) ?_; intro w2 z2 g2)
        have d7b := (d7.on ba).apart (X := fun q => w1.heap.size ≤ q) hblk g2 (by omega)
        have r2 := ra.kept g2 (by simp; omega)
        have B2 := below_kept ((b1.trans (hB.mono (by omega))).trans (ba.mono (by omega))) g2 (by omega) (by rintro q hq; cases hq; omega)
        refine bodyPost_ret (results_cellE Try.results15 _ _ _ _ rfl (run_loadVar_at (P := Try.prog) _ 40 ⟨w.heap.size, 0, none⟩ _ z2.cells _ Try.underlying40 rfl (by kernel_rfl))) rfl ⟨some ⟨wr.heap.size, 0, none⟩, 1, [⟨A7, 3 * b, c7, rtCs l sound (3 * b)⟩], rfl, ⟨⟨r2.reads rfl, ?_⟩, Nat.le_refl _, ?_⟩, by rw [← HBB.out]; rfl, ⟨fun _ ad e => by cases e; show w.heap.size ≤ wr.heap.size; omega, ?_⟩, B2⟩
        · intro p hp
          obtain rfl : p = _ := List.mem_singleton.1 hp
          exact ⟨d7b, hc7⟩
        · intro p hp
          obtain rfl : p = _ := List.mem_singleton.1 hp
          show 3 * b ≤ maxLen
          omega
        · intro p hp h0 ad e
          obtain rfl : p = _ := List.mem_singleton.1 hp
          have := hblk h0 ad e
          show w.heap.size ≤ ad.block
          omega
  · have hbe : bits = n / 3 := by rw [HBI.out]; omega
    have hq : ¬ (16 : Int) < (n : Int) / 3 := by omega
    have HQ2 : Hid ((n : Int) / 3 = (bits : Int)) := Lib.hid (by omega)
    clear hbe
    go_enter Try.func15, Try.ntmps15
    go_wp2_with (with_reducible refine wpList_alloc_row (o := ⟨some 4, _, _, _, _, _⟩) rfl _ rfl zeroF zero_fu ?_; intro w1 z1 s1 g1; have b1 := grown_below g1 (Nat.le_refl _) (by simp))
    simp only [HQ2.out]
    clear hq
    go_loopg [7, 8] bits (fun gh s7 s8 wr => ∃ b : Nat, Hid (b + gh = bits) ∧ b ≤ bits ∧ s8 = .int .i64 (b : Int) ∧ wr.ownsRow w1.heap.size 5 1 s7 (3 * b) (bvs (rtCs l sound (3 * b))) ∧ Below w1.heap.size w1 wr)
    case atStart => exact ⟨0, by show _ = _; omega, by omega, rfl, World.ownsRow_nil _ _ _ _, Below.refl _ _⟩
    case round =>
      obtain ⟨b, HB, hb, rfl, ow, hB⟩ := hrel
      obtain ⟨g0, hg0⟩ : ∃ g0 : Nat, g0 = gk := ⟨_, rfl⟩
      have HG0 := Lib.hid hg0
      clear hg0
      by_cases hlt : b < bits
      · have q1 : decide ((b : Int) < bits) = true := decide_eq_true (by omega)
        have HLT := Lib.hid hlt
        have hb1 : 3 * b + 3 ≤ n := by omega
        have q1b : decide (b < bits) = true := decide_eq_true hlt
        go_wp2_with fail
        go_loopg [9, 10] 3 (fun gh s9 s10 wi => ∃ i : Nat, Hid (i + gh = 3) ∧ i ≤ 3 ∧ s10 = .int .i64 (i : Int) ∧ s9 = .int .i64 (stkN l b i : Int) ∧ wi = wr)
        case atStart => exact ⟨0, by show _ = _; omega, by omega, rfl, rfl, rfl⟩
        case round =>
          obtain ⟨i, HI, hi, rfl, rfl, rfl⟩ := hrel
          by_cases hli : i < 3
          · obtain ⟨ad, rfl, hlta, hcl⟩ := HCL (3 * b + i) (by omega)
            have hc1 := (hB.cell (p := ad.add (3 * b + i)) (by rw [block_of_add]; omega)).trans ((b1.cell (p := ad.add (3 * b + i)) (by rw [block_of_add]; exact hlta)).trans hcl)
            obtain ⟨v, hv⟩ : ∃ v, v = (cl l (3 * b + i)).toNat := ⟨_, rfl⟩
            have HS := HSK b i v hv.symm
            have hv255 := HVL (3 * b + i)
            rw [← hv] at hc1 hv255
            have hx : 3 * b + i < n := by omega
            have hsl := (HSL b i).out
            obtain ⟨Z, hZ⟩ : ∃ Z, Z = stkN l b i := ⟨_, rfl⟩
            rw [← hZ] at HS hsl ⊢
            clear hcl HSK HCL HV HSU HSL HVL hZ hv
            by_cases h3 : v % 4 = 3
            · have HT : Hid (Z + (if v % 4 = 3 then 1 else 0) = Z + 1) := Lib.hid (by rw [if_pos h3])
              have q3 : ((v : Int) % 4 == 3) = true := by simp; omega
              clear h3
              go_wp2_with fail
              go_roundg (gk - 1)
              case measure => have := HI.out; omega
              case rel => exact ⟨i + 1, by have := HI.out; show _ = _; omega, by omega, by go_num, by rw [HS.out, HT.out]; go_num, rfl⟩
            · have HT : Hid (Z + (if v % 4 = 3 then 1 else 0) = Z) := Lib.hid (by rw [if_neg h3]; rfl)
              have q3 : ((v : Int) % 4 == 3) = false := by simp; omega
              clear h3
              go_wp2_with fail
              go_roundg (gk - 1)
              case measure => have := HI.out; omega
              case rel => exact ⟨i + 1, by have := HI.out; show _ = _; omega, by omega, by go_num, by rw [HS.out, HT.out], rfl⟩
          · have h3i : i = 3 := by omega
            have HI3 := Lib.hid h3i
            have q2 : decide ((i : Int) < 3) = false := decide_eq_false (by omega)
            have hsl := (HSL b i).out
            obtain ⟨Z, hZ⟩ : ∃ Z, Z = stkN l b i := ⟨_, rfl⟩
            have HVB : ∀ k, k < 3 → Hid (((rtC l sound (3 * b + k)).toNat : Int) = if sound && decide (1 < Z) then 0 else (((cl l (3 * b + k)).toNat % 4 : Nat) : Int)) := fun k hk => Lib.hid (by rw [hZ, h3i]; exact (HV b k hk).out)
            rw [← hZ] at hsl ⊢
            clear hli h3i HI
            clear HSK HV HSL hZ
            go_wp2_with fail
            go_loopg [7, 11] 3 (fun gh s7 s11 wj => ∃ i : Nat, Hid (i + gh = 3) ∧ i ≤ 3 ∧ s11 = .int .i64 (i : Int) ∧ wj.ownsRow w1.heap.size 5 1 s7 (3 * b + i) (bvs (rtCs l sound (3 * b + i))) ∧ Below w1.heap.size w1 wj)
            case atStart => exact ⟨0, by show _ = _; omega, by omega, rfl, ow, hB⟩
            case round =>
              obtain ⟨i, HI, hi, rfl, oj, hB2⟩ := hrel
              by_cases hli : i < 3
              · obtain ⟨ad, rfl, hlta, hcl⟩ := HCL (3 * b + i) (by omega)
                have hc1 := (hB2.cell (p := ad.add (3 * b + i)) (by rw [block_of_add]; omega)).trans ((b1.cell (p := ad.add (3 * b + i)) (by rw [block_of_add]; exact hlta)).trans hcl)
                have HVI := HVB i hli
                have HSI := HSU (3 * b + i)
                obtain ⟨v, hv⟩ : ∃ v, v = (cl l (3 * b + i)).toNat := ⟨_, rfl⟩
                have hv255 := HVL (3 * b + i)
                rw [← hv] at hc1 hv255 HVI
                have hx : 3 * b + i < n := by omega
                obtain ⟨R, hR⟩ : ∃ R, R = rtC l sound (3 * b + i) := ⟨_, rfl⟩
                rw [← hR] at HVI HSI
                clear hcl HCL HVB HSU HVL hv hR
                cases sound with
                | false =>
                  have HE : Hid (Value.int .u8 ((v : Int) % 4) = bv R) := Lib.hid (by show _ = Value.int .u8 (R.toNat : Int); rw [HVI.out]; rfl)
                  go_wp2_with (at_builtin; refine wpList_append_src _ rfl (.tmp 55) (.tmp 57) _ _ rfl w1.heap.size 5 i0 _ 1 1 Try.underlying35 hi0 hz0 hz1 hz2 rfl _ _ _ rfl (oj.alloc _) 1 _ (Src.box Try.underlying35 _ _ _ rfl _) (by unfold maxLen; omega) (by omega) (by have := hB2.size; simp; omega) ?_; intro v2 w2 hown2 hbel2)
                  rw [HE.out] at hown2
                  go_roundg (gk - 1)
                  case measure => have := HI.out; omega
                  case rel => exact ⟨i + 1, by have := HI.out; show _ = _; omega, by omega, by go_num, by rw [show 3 * b + (i + 1) = 3 * b + i + 1 from rfl, HSI.out, bvs_append]; exact hown2, hB2.trans (((Below.refl _ _).alloc hB2.size _).trans hbel2)⟩
                | true =>
                  by_cases hz : 1 < Z
                  · have HE : Hid (Value.int .u8 0 = bv R) := Lib.hid (by show _ = Value.int .u8 (R.toNat : Int); rw [HVI.out, decide_eq_true hz]; rfl)
                    clear HVI
                    go_wp2_with (at_builtin; refine wpList_append_src _ rfl (.tmp 55) (.tmp 57) _ _ rfl w1.heap.size 5 i0 _ 1 1 Try.underlying35 hi0 hz0 hz1 hz2 rfl _ _ _ rfl (oj.alloc _) 1 _ (Src.box Try.underlying35 _ _ _ rfl _) (by unfold maxLen; omega) (by omega) (by have := hB2.size; simp; omega) ?_; intro v2 w2 hown2 hbel2)
                    rw [HE.out] at hown2
                    go_roundg (gk - 1)
                    case measure => have := HI.out; omega
                    case rel => exact ⟨i + 1, by have := HI.out; show _ = _; omega, by omega, by go_num, by rw [show 3 * b + (i + 1) = 3 * b + i + 1 from rfl, HSI.out, bvs_append]; exact hown2, hB2.trans (((Below.refl _ _).alloc hB2.size _).trans hbel2)⟩
                  · have HE : Hid (Value.int .u8 ((v : Int) % 4) = bv R) := Lib.hid (by show _ = Value.int .u8 (R.toNat : Int); rw [HVI.out, decide_eq_false hz]; rfl)
                    clear HVI
                    go_wp2_with (at_builtin; refine wpList_append_src _ rfl (.tmp 55) (.tmp 57) _ _ rfl w1.heap.size 5 i0 _ 1 1 Try.underlying35 hi0 hz0 hz1 hz2 rfl _ _ _ rfl (oj.alloc _) 1 _ (Src.box Try.underlying35 _ _ _ rfl _) (by unfold maxLen; omega) (by omega) (by have := hB2.size; simp; omega) ?_; intro v2 w2 hown2 hbel2)
                    rw [HE.out] at hown2
                    go_roundg (gk - 1)
                    case measure => have := HI.out; omega
                    case rel => exact ⟨i + 1, by have := HI.out; show _ = _; omega, by omega, by go_num, by rw [show 3 * b + (i + 1) = 3 * b + i + 1 from rfl, HSI.out, bvs_append]; exact hown2, hB2.trans (((Below.refl _ _).alloc hB2.size _).trans hbel2)⟩
              · obtain rfl : i = 3 := by omega
                clear HVB
                go_wp2_with fail
                go_roundg (g0 - 1)
                case measure => have := HB.out; have := HG0.out; have := HLT.out; omega
                case rel => exact ⟨b + 1, by have := HB.out; have := HG0.out; have := HLT.out; show _ = _; omega, by have := HLT.out; omega, by go_num, oj, hB2⟩
      · have hbb : b = bits := by omega
        have HBB := Lib.hid hbb
        clear hbb
        obtain ⟨A7, c7, rfl, hc7, hm7, d7⟩ := own_form ow
        have hblk := own_block ow
        have sB := hB.size
        have zr := z1.below hB s1
        have ba : Below wr.heap.size wr (wr.alloc (.cells #[.slice A7 (3 * b) c7] 35)) := (Below.refl _ _).alloc (Nat.le_refl _) _
        have ra : Row (wr.alloc (.cells #[.slice A7 (3 * b) c7] 35)) wr.heap.size 35 [.slice A7 (3 * b) c7] := row_alloc wr _ [.slice A7 (3 * b) c7]
        have sba := ba.size
        go_wp2_with ((with_reducible refine wpList_at ⟨none, .store _ (.tmp 4) _, _, _, _, _⟩ ?_); refine wpList_store_all rfl _ _ _ rfl w.heap.size rfl _ _ (zr.on ba) [.slice (some ⟨wr.heap.size, 0, none⟩) 1 1] rfl (slice_one _ _ _) rfl (by kernel_rfl) ?_; intro w2 z2 g2)
        have d7b := (d7.on ba).apart (X := fun q => w1.heap.size ≤ q) hblk g2 (by omega)
        have r2 := ra.kept g2 (by simp; omega)
        have B2 := below_kept ((b1.trans (hB.mono (by omega))).trans (ba.mono (by omega))) g2 (by omega) (by rintro q hq; cases hq; omega)
        refine bodyPost_ret (results_cellE Try.results15 _ _ _ _ rfl (run_loadVar_at (P := Try.prog) _ 40 ⟨w.heap.size, 0, none⟩ _ z2.cells _ Try.underlying40 rfl (by kernel_rfl))) rfl ⟨some ⟨wr.heap.size, 0, none⟩, 1, [⟨A7, 3 * b, c7, rtCs l sound (3 * b)⟩], rfl, ⟨⟨r2.reads rfl, ?_⟩, Nat.le_refl _, ?_⟩, by rw [← HBB.out]; rfl, ⟨fun _ ad e => by cases e; show w.heap.size ≤ wr.heap.size; omega, ?_⟩, B2⟩
        · intro p hp
          obtain rfl : p = _ := List.mem_singleton.1 hp
          exact ⟨d7b, hc7⟩
        · intro p hp
          obtain rfl : p = _ := List.mem_singleton.1 hp
          show 3 * b ≤ maxLen
          omega
        · intro p hp h0 ad e
          obtain rfl : p = _ := List.mem_singleton.1 hp
          have := hblk h0 ad e
          show w.heap.size ≤ ad.block
          omega
end Go.Proofs.Ytfcbcclcmgheeaa
