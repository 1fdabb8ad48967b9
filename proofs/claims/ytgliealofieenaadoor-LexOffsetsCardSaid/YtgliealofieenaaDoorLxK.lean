/-
  What the reference's Tokens returns: a contract by a walk. For texts of at most 1500 bytes.
-/
import Derived.Test.YtgliealofieenaaDoorLxF
import Derived.Test.YtgliealofieenaaDoorLxH
set_option linter.unusedSimpArgs false
set_option linter.unusedVariables false
namespace Go.Proofs.YtgliealofieenaaDoor
open Go.RowKit

set_option maxRecDepth 100000 in
set_option maxHeartbeats 16000000 in
theorem rtokens_any (s : ByteArray) (w : World) (hs : s.size ≤ 1500) :
    Calls Tryd.prog 11 #[.string s] w (GivesT (tkL s) (tkE s) w) := by
  obtain ⟨i0, hi0, hz0, hz1, hz2⟩ := info_parts info_tk
  have HLEN := Lib.hid (tl_len s)
  have HCL := fun r W => Lib.hid (class_any r W)
  have HSG := fun p W h => Lib.hid (rsign_any s p W (by omega) h)
  have q15 : decide ((1500 : Int) < (s.size : Int)) = false := decide_eq_false (by omega)
  unfold GivesT
  go_enter Tryd.func11, Tryd.ntmps11
  go_wp2_with fail
  go_loopg [4, 5] s.size (fun g s4 s5 wr => ∃ (p : Nat) (acc : List Tk), Hid (p + g = s.size) ∧ s5 = .int .i64 (p : Int) ∧ wr.ownsRow w.heap.size 30 4 s4 acc.length (tks acc) ∧ Below w.heap.size w wr ∧ LxAt s p p acc)
  case atStart => exact ⟨0, [], by show _ = _; omega, rfl, World.ownsRow_nil _ _ _ _, Below.refl _ _, LxAt.start s⟩
  case round =>
    obtain ⟨p, acc, HP, rfl, own, hB, hat⟩ := hrel
    have HAT := Lib.hid hat
    have hps := hat.1
    have hal := hat.2.2.1
    have hbs := hB.size
    by_cases hlt : p < s.size
    · obtain ⟨c, hc⟩ : ∃ c, (tl s)[p]? = some c := ⟨_, tl_get hlt⟩
      have HC := Lib.hid hc
      have HD := Lib.hid (lx_head hc)
      have ql : decide ((p : Int) < (s.size : Int)) = true := decide_eq_true (by omega)
      have ql2 : decide (p < s.size) = true := decide_eq_true hlt
      have HCP := HCL (bz c)
      rw [clsZ_bz] at HCP
      clear hc hat
      rcases cls_range c with hk | hk | hk | hk | hk
      · rw [hk] at HCP
        have HK := Lib.hid hk
        clear hk
        unfold bz at HCP
        have hnl : lxLet (bz c) = false := not_of fun h => by have := cls_let.2 h; have h2 := HK.out; omega
        have hnd : lxDig (bz c) = false := not_of fun h => by have := cls_dig.2 h; have h2 := HK.out; omega
        have hnw : lxWh (bz c) = false := not_of fun h => by have := cls_wh.2 h; have h2 := HK.out; omega
        have HNW := Lib.hid hnw
        have HF : Hid (lxFirst ((tl s).drop p) = if sgn ((tl s).drop p) = 0 then none else some (3, sgn ((tl s).drop p), 0)) := Lib.hid (by rw [HD.out]; exact first_sgn hnl hnd)
        have HSP := fun W => HSG p W hlt
        clear hnl hnd hnw HSG
        cases hz : sgn ((tl s).drop p) with
        | zero =>
          rw [hz] at HSP HF
          have HTK := Lib.hid (tk_none (HAT.out.bad HC.out (Nat.le_refl _) HNW.out (by rw [HF.out]; rfl)))
          clear hz
          go_wp2_with ((with_reducible refine wpList_at ⟨some 21, _, _, _, _, _⟩ ?_); refine wpList_valueG rfl _ (by exact exec_idxS _ _ _ _ rfl Tryd.underlying9 s rfl .i64 p rfl c HC.out _ rfl) ?_)
          refine (HCP _).out.mono ?_
          rintro _ _ ⟨rfl, rfl⟩
          go_wp2_with fail
          refine (HSP _).out.mono ?_
          rintro _ _ ⟨rfl, rfl⟩
          go_wp2_with fail
          go_ret2
          exact ⟨none, 0, 0, by rw [HTK.out.2]; rfl, by rw [HTK.out.1]; exact Reads.nil_, Nat.le_refl _, by omega, hB⟩
        | succ m0 =>
          obtain ⟨m, hm⟩ : ∃ m, m = m0 + 1 := ⟨_, rfl⟩
          rw [← hm] at hz
          rw [hz] at HSP HF
          have HM := Lib.hid hm
          have HF2 : Hid (lxFirst ((tl s).drop p) = some (3, m, 0)) := Lib.hid (by rw [HF.out, if_neg (by omega)])
          obtain ⟨hat2, hm0, hml⟩ := HAT.out.jump hlt HF2.out
          have HAT2 := Lib.hid hat2
          have qz : ((m : Int) == 0) = false := by rw [beq_eq_false_iff_ne]; omega
          have qz2 : (m == 0) = false := by rw [beq_eq_false_iff_ne]; omega
          have HX := Lib.hid (ex_tok s p m)
          have hacc : acc.length ≤ 1500 := by omega
          clear hz hat2 hm HF
          go_wp2_with ((with_reducible refine wpList_at ⟨some 21, _, _, _, _, _⟩ ?_); refine wpList_valueG rfl _ (by exact exec_idxS _ _ _ _ rfl Tryd.underlying9 s rfl .i64 p rfl c HC.out _ rfl) ?_)
          refine (HCP _).out.mono ?_
          rintro _ _ ⟨rfl, rfl⟩
          go_wp2_with fail
          refine (HSP _).out.mono ?_
          rintro _ _ ⟨rfl, rfl⟩
          go_wp2_with (first
            | ((with_reducible refine wpList_at ⟨some 45, _, _, _, _, _⟩ ?_); refine wpList_valueW (o := ⟨some 45, _, _, _, _, _⟩) rfl _ (by exact exec_slice1 _ 23 30 _ rfl Tryd.underlying23 i0 _ hi0 hz0 (Tk.cs ⟨3, s.extract p (p + m), 0, (p : Int)⟩) (by rw [hz1]; rfl) (by show 0 < 4; decide) (by show 4 ≤ 1000; decide) rfl) ?_)
            | (at_builtin; have bx : Below wr.heap.size wr (wr.alloc (.cells (Tk.cs ⟨3, s.extract p (p + m), 0, (p : Int)⟩).toArray 30)) := (Below.refl _ _).alloc (Nat.le_refl _) _; have ownx := own_below own bx; have zx := bx.size; refine wpList_append_at9 rfl (.tmp 36) (.tmp 45) _ _ rfl w.heap.size 30 i0 _ 4 40 Tryd.underlying23 hi0 hz0 hz1 hz2 rfl _ _ _ rfl ownx 1 (Tk.cs ⟨3, s.extract p (p + m), 0, (p : Int)⟩) (boxRow9 Tryd.underlying23 _ _ _ 4 rfl (Tk.cs_one _) _) (by unfold maxLen; omega) (by omega) (by omega) ?_; intro vz wz ownz gz obz; have Bz := below_kept (hB.trans (bx.mono hB.size)) gz (Nat.le_trans hB.size bx.size) (by intro q hq; exact (ownx.lt q hq).1)))
          have HTV : Hid (tks acc ++ Tk.cs ⟨3, s.extract p (p + m), 0, (p : Int)⟩ = tks (acc ++ [⟨3, mk (((tl s).drop p).take m), 0, (p : Int)⟩])) := Lib.hid (by rw [tks_snoc, HX.out])
          rw [HTV.out] at ownz
          go_wp2_with fail
          go_roundg (gk - m)
          case measure => have := HP.out; omega
          case rel => exact ⟨p + m, _, by have := HP.out; show _ = _; omega, by first | rfl | go_num, by rw [List.length_append, List.length_singleton]; exact ownz, Bz, HAT2.out⟩
      · rw [hk] at HCP
        have HK := Lib.hid hk
        clear hk
        unfold bz at HCP
        have HNW : Hid (lxWh (bz c) = false) := Lib.hid (wh_of_let (cls_let.1 HK.out))
        have HF : Hid (lxFirst ((tl s).drop p) = if wLen ((tl s).drop p) ≤ 12 then some (1, wLen ((tl s).drop p), 0) else none) := Lib.hid (by rw [HD.out]; exact first_let (cls_let.1 HK.out))
        have HR1 : Hid (wLen ((tl s).drop p) = (p + 1 - p) + wLen (((tl s).drop p).drop (p + 1 - p))) := Lib.hid (by
          rw [show p + 1 - p = 0 + 1 by omega]
          exact wLen_step (k := 0) (by simp) (by rw [HD.out]; rfl) (wd_of_let (cls_let.1 HK.out)))
        go_wp2_with ((with_reducible refine wpList_at ⟨some 21, _, _, _, _, _⟩ ?_); refine wpList_valueG rfl _ (by exact exec_idxS _ _ _ _ rfl Tryd.underlying9 s rfl .i64 p rfl c HC.out _ rfl) ?_)
        refine (HCP _).out.mono ?_
        rintro _ _ ⟨rfl, rfl⟩
        go_wp2_with fail
        go_loopg [8] s.size (fun g s8 wq => ∃ nn : Nat, Hid (nn + g = s.size + p + 1) ∧ nn ≤ s.size ∧ p < nn ∧ s8 = .int .i64 (nn : Int) ∧ Hid (wLen ((tl s).drop p) = (nn - p) + wLen (((tl s).drop p).drop (nn - p))) ∧ wq = wr)
        case atStart => exact ⟨p + 1, by show _ = _; omega, by omega, by omega, rfl, HR1, rfl⟩
        case round =>
          obtain ⟨nn, HNN, hnn, hpn, rfl, HRN, rfl⟩ := hrel
          by_cases hnl : nn < s.size
          · obtain ⟨x, hx⟩ : ∃ x, (tl s)[nn]? = some x := ⟨_, tl_get hnl⟩
            have HX := Lib.hid hx
            have HXD : Hid (((tl s).drop p)[nn - p]? = some x) := Lib.hid (by rw [List.getElem?_drop, show p + (nn - p) = nn by omega]; exact hx)
            have qn : decide ((nn : Int) < (s.size : Int)) = true := decide_eq_true (by omega)
            have qn2 : decide (nn < s.size) = true := decide_eq_true hnl
            have HCX := HCL (bz x)
            rw [clsZ_bz] at HCX
            clear hx
            rcases cls_range x with hk | hk | hk | hk | hk
            · rw [hk] at HCX
              have HKX := Lib.hid hk
              clear hk
              unfold bz at HCX
              have HR2 := Lib.hid (wLen_stop HRN.out HXD.out (not_of fun h => by have := cls_wd.1 h; have h2 := HKX.out; omega))
              have HXT : Hid (s.extract p nn = mk (((tl s).drop p).take (nn - p))) := Lib.hid (by rw [← ex_tok, show p + (nn - p) = nn by omega])
              have hacc : acc.length ≤ 1500 := by omega
              by_cases h12 : nn - p ≤ 12
              · have q12 : decide ((12 : Int) < (nn : Int) - (p : Int)) = false := decide_eq_false (by omega)
                have HF2 : Hid (lxFirst ((tl s).drop p) = some (1, nn - p, 0)) := Lib.hid (by rw [HF.out, HR2.out, if_pos h12])
                obtain ⟨hat2, hm0, hml⟩ := HAT.out.jump hlt HF2.out
                rw [show p + (nn - p) = nn by omega] at hat2
                have HAT2 := Lib.hid hat2
                clear hat2
                go_wp2_with ((with_reducible refine wpList_at ⟨some 58, _, _, _, _, _⟩ ?_); refine wpList_valueG rfl _ (by exact exec_idxS _ _ _ _ rfl Tryd.underlying9 s rfl .i64 nn rfl x HX.out _ rfl) ?_)
                refine (HCX _).out.mono ?_
                rintro _ _ ⟨rfl, rfl⟩
                go_wp2_with (first
                  | (with_reducible refine wpList_alloc_row (o := ⟨some 10, _, _, _, _, _⟩) rfl _ rfl zeroTk zero_tk ?_; intro w4 r4 z4 g4; have B4 := below_kept hB g4 hB.size (by simp); have own4 := own.kept g4 (by cases v : Value.ownBlock _ <;> simp); have ne4 := own_ge_ne own (Nat.le_refl _))
                  | ((with_reducible refine wpList_at ⟨none, .store _ (.tmp 10) _, _, _, _, _⟩ ?_); refine wpList_store_all rfl _ _ _ rfl wr.heap.size rfl _ _ r4 (Tk.cs ⟨1, s.extract p nn, 0, (p : Int)⟩) rfl (Tk.cs_one _) rfl (by kernel_rfl) ?_; intro w5 r5 g5; have z5 := g5.size; have B5 := below_kept B4 g5 B4.size (by rintro q hq; cases hq; omega); have own5 := own4.kept g5 (.inr ne4); have c52 := r5.cell (j := 2) rfl)
                  | ((with_reducible refine wpList_at ⟨some 119, _, _, _, _, _⟩ ?_); refine wpList_valueG rfl _ (by exact exec_loadTk _ _ rfl ⟨wr.heap.size, 0, none⟩ rfl ⟨1, s.extract p nn, 0, (p : Int)⟩ r5.cells) ?_)
                  | ((with_reducible refine wpList_at ⟨some 120, _, _, _, _, _⟩ ?_); refine wpList_valueW (o := ⟨some 120, _, _, _, _, _⟩) rfl _ (by exact exec_slice1 _ 23 30 _ rfl Tryd.underlying23 i0 _ hi0 hz0 (Tk.cs ⟨1, s.extract p nn, 0, (p : Int)⟩) (by rw [hz1]; rfl) (by show 0 < 4; decide) (by show 4 ≤ 1000; decide) rfl) ?_)
                  | (at_builtin; have bx : Below w5.heap.size w5 (w5.alloc (.cells (Tk.cs ⟨1, s.extract p nn, 0, (p : Int)⟩).toArray 30)) := (Below.refl _ _).alloc (Nat.le_refl _) _; have ownx := own_below own5 bx; have zx := bx.size; refine wpList_append_at9 rfl (.tmp 118) (.tmp 120) _ _ rfl w.heap.size 30 i0 _ 4 40 Tryd.underlying23 hi0 hz0 hz1 hz2 rfl _ _ _ rfl ownx 1 (Tk.cs ⟨1, s.extract p nn, 0, (p : Int)⟩) (boxRow9 Tryd.underlying23 _ _ _ 4 rfl (Tk.cs_one _) _) (by unfold maxLen; omega) (by omega) (by omega) ?_; intro vz wz ownz gz obz; have Bz := below_kept (B5.trans (bx.mono B5.size)) gz (Nat.le_trans B5.size bx.size) (by intro q hq; exact (ownx.lt q hq).1)))
                have HTV : Hid (tks acc ++ Tk.cs ⟨1, s.extract p nn, 0, (p : Int)⟩ = tks (acc ++ [⟨1, mk (((tl s).drop p).take (nn - p)), 0, (p : Int)⟩])) := Lib.hid (by rw [tks_snoc, HXT.out])
                rw [HTV.out] at ownz
                go_wp2_with fail
                go_roundg (s.size - nn)
                case measure => have := HP.out; omega
                case rel => exact ⟨nn, _, by have := HP.out; show _ = _; omega, rfl, by rw [List.length_append, List.length_singleton]; exact ownz, Bz, HAT2.out⟩
              · have q12 : decide ((12 : Int) < (nn : Int) - (p : Int)) = true := decide_eq_true (by omega)
                have HTK := Lib.hid (tk_none (HAT.out.bad HC.out (Nat.le_refl _) HNW.out (by rw [HF.out, HR2.out, if_neg h12])))
                go_wp2_with ((with_reducible refine wpList_at ⟨some 58, _, _, _, _, _⟩ ?_); refine wpList_valueG rfl _ (by exact exec_idxS _ _ _ _ rfl Tryd.underlying9 s rfl .i64 nn rfl x HX.out _ rfl) ?_)
                refine (HCX _).out.mono ?_
                rintro _ _ ⟨rfl, rfl⟩
                go_wp2_with (first
                  | (with_reducible refine wpList_alloc_row (o := ⟨some 10, _, _, _, _, _⟩) rfl _ rfl zeroTk zero_tk ?_; intro w4 r4 z4 g4; have B4 := below_kept hB g4 hB.size (by simp); have own4 := own.kept g4 (by cases v : Value.ownBlock _ <;> simp); have ne4 := own_ge_ne own (Nat.le_refl _))
                  | ((with_reducible refine wpList_at ⟨none, .store _ (.tmp 10) _, _, _, _, _⟩ ?_); refine wpList_store_all rfl _ _ _ rfl wr.heap.size rfl _ _ r4 (Tk.cs ⟨1, s.extract p nn, 0, (p : Int)⟩) rfl (Tk.cs_one _) rfl (by kernel_rfl) ?_; intro w5 r5 g5; have z5 := g5.size; have B5 := below_kept B4 g5 B4.size (by rintro q hq; cases hq; omega); have own5 := own4.kept g5 (.inr ne4); have c52 := r5.cell (j := 2) rfl))
                go_wp2_with fail
                go_ret2
                exact ⟨none, 0, 0, by rw [HTK.out.2]; rfl, by rw [HTK.out.1]; exact Reads.nil_, Nat.le_refl _, by omega, B5⟩
            · rw [hk] at HCX
              have HKX := Lib.hid hk
              clear hk
              unfold bz at HCX
              have HR2 := Lib.hid (wLen_step HRN.out HXD.out (cls_wd.2 (by have h2 := HKX.out; omega)))
              go_wp2_with ((with_reducible refine wpList_at ⟨some 58, _, _, _, _, _⟩ ?_); refine wpList_valueG rfl _ (by exact exec_idxS _ _ _ _ rfl Tryd.underlying9 s rfl .i64 nn rfl x HX.out _ rfl) ?_)
              refine (HCX _).out.mono ?_
              rintro _ _ ⟨rfl, rfl⟩
              go_wp2_with fail
              go_roundg (gk - 1)
              case measure => have := HNN.out; omega
              case rel => exact ⟨nn + 1, by have := HNN.out; show _ = _; omega, by omega, by omega, by go_num, by rw [show nn + 1 - p = nn - p + 1 by omega]; exact HR2, rfl⟩
            · rw [hk] at HCX
              have HKX := Lib.hid hk
              clear hk
              unfold bz at HCX
              have HR2 := Lib.hid (wLen_step HRN.out HXD.out (cls_wd.2 (by have h2 := HKX.out; omega)))
              go_wp2_with ((with_reducible refine wpList_at ⟨some 58, _, _, _, _, _⟩ ?_); refine wpList_valueG rfl _ (by exact exec_idxS _ _ _ _ rfl Tryd.underlying9 s rfl .i64 nn rfl x HX.out _ rfl) ?_)
              refine (HCX _).out.mono ?_
              rintro _ _ ⟨rfl, rfl⟩
              go_wp2_with fail
              go_roundg (gk - 1)
              case measure => have := HNN.out; omega
              case rel => exact ⟨nn + 1, by have := HNN.out; show _ = _; omega, by omega, by omega, by go_num, by rw [show nn + 1 - p = nn - p + 1 by omega]; exact HR2, rfl⟩
            · rw [hk] at HCX
              have HKX := Lib.hid hk
              clear hk
              unfold bz at HCX
              have HR2 := Lib.hid (wLen_step HRN.out HXD.out (cls_wd.2 (by have h2 := HKX.out; omega)))
              go_wp2_with ((with_reducible refine wpList_at ⟨some 58, _, _, _, _, _⟩ ?_); refine wpList_valueG rfl _ (by exact exec_idxS _ _ _ _ rfl Tryd.underlying9 s rfl .i64 nn rfl x HX.out _ rfl) ?_)
              refine (HCX _).out.mono ?_
              rintro _ _ ⟨rfl, rfl⟩
              go_wp2_with fail
              go_roundg (gk - 1)
              case measure => have := HNN.out; omega
              case rel => exact ⟨nn + 1, by have := HNN.out; show _ = _; omega, by omega, by omega, by go_num, by rw [show nn + 1 - p = nn - p + 1 by omega]; exact HR2, rfl⟩
            · rw [hk] at HCX
              have HKX := Lib.hid hk
              clear hk
              unfold bz at HCX
              have HR2 := Lib.hid (wLen_stop HRN.out HXD.out (not_of fun h => by have := cls_wd.1 h; have h2 := HKX.out; omega))
              have HXT : Hid (s.extract p nn = mk (((tl s).drop p).take (nn - p))) := Lib.hid (by rw [← ex_tok, show p + (nn - p) = nn by omega])
              have hacc : acc.length ≤ 1500 := by omega
              by_cases h12 : nn - p ≤ 12
              · have q12 : decide ((12 : Int) < (nn : Int) - (p : Int)) = false := decide_eq_false (by omega)
                have HF2 : Hid (lxFirst ((tl s).drop p) = some (1, nn - p, 0)) := Lib.hid (by rw [HF.out, HR2.out, if_pos h12])
                obtain ⟨hat2, hm0, hml⟩ := HAT.out.jump hlt HF2.out
                rw [show p + (nn - p) = nn by omega] at hat2
                have HAT2 := Lib.hid hat2
                clear hat2
                go_wp2_with ((with_reducible refine wpList_at ⟨some 58, _, _, _, _, _⟩ ?_); refine wpList_valueG rfl _ (by exact exec_idxS _ _ _ _ rfl Tryd.underlying9 s rfl .i64 nn rfl x HX.out _ rfl) ?_)
                refine (HCX _).out.mono ?_
                rintro _ _ ⟨rfl, rfl⟩
                go_wp2_with (first
                  | (with_reducible refine wpList_alloc_row (o := ⟨some 10, _, _, _, _, _⟩) rfl _ rfl zeroTk zero_tk ?_; intro w4 r4 z4 g4; have B4 := below_kept hB g4 hB.size (by simp); have own4 := own.kept g4 (by cases v : Value.ownBlock _ <;> simp); have ne4 := own_ge_ne own (Nat.le_refl _))
                  | ((with_reducible refine wpList_at ⟨none, .store _ (.tmp 10) _, _, _, _, _⟩ ?_); refine wpList_store_all rfl _ _ _ rfl wr.heap.size rfl _ _ r4 (Tk.cs ⟨1, s.extract p nn, 0, (p : Int)⟩) rfl (Tk.cs_one _) rfl (by kernel_rfl) ?_; intro w5 r5 g5; have z5 := g5.size; have B5 := below_kept B4 g5 B4.size (by rintro q hq; cases hq; omega); have own5 := own4.kept g5 (.inr ne4); have c52 := r5.cell (j := 2) rfl)
                  | ((with_reducible refine wpList_at ⟨some 119, _, _, _, _, _⟩ ?_); refine wpList_valueG rfl _ (by exact exec_loadTk _ _ rfl ⟨wr.heap.size, 0, none⟩ rfl ⟨1, s.extract p nn, 0, (p : Int)⟩ r5.cells) ?_)
                  | ((with_reducible refine wpList_at ⟨some 120, _, _, _, _, _⟩ ?_); refine wpList_valueW (o := ⟨some 120, _, _, _, _, _⟩) rfl _ (by exact exec_slice1 _ 23 30 _ rfl Tryd.underlying23 i0 _ hi0 hz0 (Tk.cs ⟨1, s.extract p nn, 0, (p : Int)⟩) (by rw [hz1]; rfl) (by show 0 < 4; decide) (by show 4 ≤ 1000; decide) rfl) ?_)
                  | (at_builtin; have bx : Below w5.heap.size w5 (w5.alloc (.cells (Tk.cs ⟨1, s.extract p nn, 0, (p : Int)⟩).toArray 30)) := (Below.refl _ _).alloc (Nat.le_refl _) _; have ownx := own_below own5 bx; have zx := bx.size; refine wpList_append_at9 rfl (.tmp 118) (.tmp 120) _ _ rfl w.heap.size 30 i0 _ 4 40 Tryd.underlying23 hi0 hz0 hz1 hz2 rfl _ _ _ rfl ownx 1 (Tk.cs ⟨1, s.extract p nn, 0, (p : Int)⟩) (boxRow9 Tryd.underlying23 _ _ _ 4 rfl (Tk.cs_one _) _) (by unfold maxLen; omega) (by omega) (by omega) ?_; intro vz wz ownz gz obz; have Bz := below_kept (B5.trans (bx.mono B5.size)) gz (Nat.le_trans B5.size bx.size) (by intro q hq; exact (ownx.lt q hq).1)))
                have HTV : Hid (tks acc ++ Tk.cs ⟨1, s.extract p nn, 0, (p : Int)⟩ = tks (acc ++ [⟨1, mk (((tl s).drop p).take (nn - p)), 0, (p : Int)⟩])) := Lib.hid (by rw [tks_snoc, HXT.out])
                rw [HTV.out] at ownz
                go_wp2_with fail
                go_roundg (s.size - nn)
                case measure => have := HP.out; omega
                case rel => exact ⟨nn, _, by have := HP.out; show _ = _; omega, rfl, by rw [List.length_append, List.length_singleton]; exact ownz, Bz, HAT2.out⟩
              · have q12 : decide ((12 : Int) < (nn : Int) - (p : Int)) = true := decide_eq_true (by omega)
                have HTK := Lib.hid (tk_none (HAT.out.bad HC.out (Nat.le_refl _) HNW.out (by rw [HF.out, HR2.out, if_neg h12])))
                go_wp2_with ((with_reducible refine wpList_at ⟨some 58, _, _, _, _, _⟩ ?_); refine wpList_valueG rfl _ (by exact exec_idxS _ _ _ _ rfl Tryd.underlying9 s rfl .i64 nn rfl x HX.out _ rfl) ?_)
                refine (HCX _).out.mono ?_
                rintro _ _ ⟨rfl, rfl⟩
                go_wp2_with (first
                  | (with_reducible refine wpList_alloc_row (o := ⟨some 10, _, _, _, _, _⟩) rfl _ rfl zeroTk zero_tk ?_; intro w4 r4 z4 g4; have B4 := below_kept hB g4 hB.size (by simp); have own4 := own.kept g4 (by cases v : Value.ownBlock _ <;> simp); have ne4 := own_ge_ne own (Nat.le_refl _))
                  | ((with_reducible refine wpList_at ⟨none, .store _ (.tmp 10) _, _, _, _, _⟩ ?_); refine wpList_store_all rfl _ _ _ rfl wr.heap.size rfl _ _ r4 (Tk.cs ⟨1, s.extract p nn, 0, (p : Int)⟩) rfl (Tk.cs_one _) rfl (by kernel_rfl) ?_; intro w5 r5 g5; have z5 := g5.size; have B5 := below_kept B4 g5 B4.size (by rintro q hq; cases hq; omega); have own5 := own4.kept g5 (.inr ne4); have c52 := r5.cell (j := 2) rfl))
                go_wp2_with fail
                go_ret2
                exact ⟨none, 0, 0, by rw [HTK.out.2]; rfl, by rw [HTK.out.1]; exact Reads.nil_, Nat.le_refl _, by omega, B5⟩
          · obtain rfl : nn = s.size := by omega
            have qn : decide ((s.size : Int) < (s.size : Int)) = false := decide_eq_false (by omega)
            have qn2 : decide (s.size < s.size) = false := decide_eq_false hnl
            have HR2 : Hid (wLen ((tl s).drop p) = s.size - p) := Lib.hid (by rw [wLen_end HRN.out (by rw [List.length_drop, HLEN.out]; exact Nat.le_refl _), List.length_drop, HLEN.out])
            have HXT : Hid (s.extract p s.size = mk (((tl s).drop p).take (s.size - p))) := Lib.hid (by rw [← ex_tok, show p + (s.size - p) = s.size by omega])
            have hacc : acc.length ≤ 1500 := by omega
            by_cases h12 : s.size - p ≤ 12
            · have q12 : decide ((12 : Int) < (s.size : Int) - (p : Int)) = false := decide_eq_false (by omega)
              have HF2 : Hid (lxFirst ((tl s).drop p) = some (1, s.size - p, 0)) := Lib.hid (by rw [HF.out, HR2.out, if_pos h12])
              obtain ⟨hat2, hm0, hml⟩ := HAT.out.jump hlt HF2.out
              rw [show p + (s.size - p) = s.size by omega] at hat2
              have HAT2 := Lib.hid hat2
              clear hat2
              go_wp2_with (first
                | (with_reducible refine wpList_alloc_row (o := ⟨some 10, _, _, _, _, _⟩) rfl _ rfl zeroTk zero_tk ?_; intro w4 r4 z4 g4; have B4 := below_kept hB g4 hB.size (by simp); have own4 := own.kept g4 (by cases v : Value.ownBlock _ <;> simp); have ne4 := own_ge_ne own (Nat.le_refl _))
                | ((with_reducible refine wpList_at ⟨none, .store _ (.tmp 10) _, _, _, _, _⟩ ?_); refine wpList_store_all rfl _ _ _ rfl wr.heap.size rfl _ _ r4 (Tk.cs ⟨1, s.extract p s.size, 0, (p : Int)⟩) rfl (Tk.cs_one _) rfl (by kernel_rfl) ?_; intro w5 r5 g5; have z5 := g5.size; have B5 := below_kept B4 g5 B4.size (by rintro q hq; cases hq; omega); have own5 := own4.kept g5 (.inr ne4); have c52 := r5.cell (j := 2) rfl)
                | ((with_reducible refine wpList_at ⟨some 119, _, _, _, _, _⟩ ?_); refine wpList_valueG rfl _ (by exact exec_loadTk _ _ rfl ⟨wr.heap.size, 0, none⟩ rfl ⟨1, s.extract p s.size, 0, (p : Int)⟩ r5.cells) ?_)
                | ((with_reducible refine wpList_at ⟨some 120, _, _, _, _, _⟩ ?_); refine wpList_valueW (o := ⟨some 120, _, _, _, _, _⟩) rfl _ (by exact exec_slice1 _ 23 30 _ rfl Tryd.underlying23 i0 _ hi0 hz0 (Tk.cs ⟨1, s.extract p s.size, 0, (p : Int)⟩) (by rw [hz1]; rfl) (by show 0 < 4; decide) (by show 4 ≤ 1000; decide) rfl) ?_)
                | (at_builtin; have bx : Below w5.heap.size w5 (w5.alloc (.cells (Tk.cs ⟨1, s.extract p s.size, 0, (p : Int)⟩).toArray 30)) := (Below.refl _ _).alloc (Nat.le_refl _) _; have ownx := own_below own5 bx; have zx := bx.size; refine wpList_append_at9 rfl (.tmp 118) (.tmp 120) _ _ rfl w.heap.size 30 i0 _ 4 40 Tryd.underlying23 hi0 hz0 hz1 hz2 rfl _ _ _ rfl ownx 1 (Tk.cs ⟨1, s.extract p s.size, 0, (p : Int)⟩) (boxRow9 Tryd.underlying23 _ _ _ 4 rfl (Tk.cs_one _) _) (by unfold maxLen; omega) (by omega) (by omega) ?_; intro vz wz ownz gz obz; have Bz := below_kept (B5.trans (bx.mono B5.size)) gz (Nat.le_trans B5.size bx.size) (by intro q hq; exact (ownx.lt q hq).1)))
              have HTV : Hid (tks acc ++ Tk.cs ⟨1, s.extract p s.size, 0, (p : Int)⟩ = tks (acc ++ [⟨1, mk (((tl s).drop p).take (s.size - p)), 0, (p : Int)⟩])) := Lib.hid (by rw [tks_snoc, HXT.out])
              rw [HTV.out] at ownz
              go_wp2_with fail
              go_roundg (s.size - s.size)
              case measure => have := HP.out; omega
              case rel => exact ⟨s.size, _, by have := HP.out; show _ = _; omega, rfl, by rw [List.length_append, List.length_singleton]; exact ownz, Bz, HAT2.out⟩
            · have q12 : decide ((12 : Int) < (s.size : Int) - (p : Int)) = true := decide_eq_true (by omega)
              have HTK := Lib.hid (tk_none (HAT.out.bad HC.out (Nat.le_refl _) HNW.out (by rw [HF.out, HR2.out, if_neg h12])))
              go_wp2_with (first
                | (with_reducible refine wpList_alloc_row (o := ⟨some 10, _, _, _, _, _⟩) rfl _ rfl zeroTk zero_tk ?_; intro w4 r4 z4 g4; have B4 := below_kept hB g4 hB.size (by simp); have own4 := own.kept g4 (by cases v : Value.ownBlock _ <;> simp); have ne4 := own_ge_ne own (Nat.le_refl _))
                | ((with_reducible refine wpList_at ⟨none, .store _ (.tmp 10) _, _, _, _, _⟩ ?_); refine wpList_store_all rfl _ _ _ rfl wr.heap.size rfl _ _ r4 (Tk.cs ⟨1, s.extract p s.size, 0, (p : Int)⟩) rfl (Tk.cs_one _) rfl (by kernel_rfl) ?_; intro w5 r5 g5; have z5 := g5.size; have B5 := below_kept B4 g5 B4.size (by rintro q hq; cases hq; omega); have own5 := own4.kept g5 (.inr ne4); have c52 := r5.cell (j := 2) rfl))
              go_wp2_with fail
              go_ret2
              exact ⟨none, 0, 0, by rw [HTK.out.2]; rfl, by rw [HTK.out.1]; exact Reads.nil_, Nat.le_refl _, by omega, B5⟩
      · rw [hk] at HCP
        have HK := Lib.hid hk
        clear hk
        unfold bz at HCP
        have HNW : Hid (lxWh (bz c) = false) := Lib.hid (wh_of_dig (cls_dig.1 HK.out))
        have HF : Hid (lxFirst ((tl s).drop p) = if numOK (((tl s).drop p).take (wLen ((tl s).drop p))) = true then some (2, wLen ((tl s).drop p), numV (((tl s).drop p).take (wLen ((tl s).drop p)))) else none) := Lib.hid (by rw [HD.out]; exact first_dig (cls_dig.1 HK.out))
        have HR1 : Hid (dLen ((tl s).drop p) = (p + 1 - p) + dLen (((tl s).drop p).drop (p + 1 - p))) := Lib.hid (by
          rw [show p + 1 - p = 0 + 1 by omega]
          exact dLen_step (k := 0) (by simp) (by rw [HD.out]; rfl) (cls_dig.1 HK.out))
        go_wp2_with ((with_reducible refine wpList_at ⟨some 21, _, _, _, _, _⟩ ?_); refine wpList_valueG rfl _ (by exact exec_idxS _ _ _ _ rfl Tryd.underlying9 s rfl .i64 p rfl c HC.out _ rfl) ?_)
        refine (HCP _).out.mono ?_
        rintro _ _ ⟨rfl, rfl⟩
        go_wp2_with fail
        go_loopg [8] s.size (fun g s8 wq => ∃ nn : Nat, Hid (nn + g = s.size + p + 1) ∧ nn ≤ s.size ∧ p < nn ∧ s8 = .int .i64 (nn : Int) ∧ Hid (dLen ((tl s).drop p) = (nn - p) + dLen (((tl s).drop p).drop (nn - p))) ∧ wq = wr)
        case atStart => exact ⟨p + 1, by show _ = _; omega, by omega, by omega, rfl, HR1, rfl⟩
        case round =>
          obtain ⟨nn, HNN, hnn, hpn, rfl, HRN, rfl⟩ := hrel
          by_cases hnl : nn < s.size
          · obtain ⟨x, hx⟩ : ∃ x, (tl s)[nn]? = some x := ⟨_, tl_get hnl⟩
            have HX := Lib.hid hx
            have HXD : Hid (((tl s).drop p)[nn - p]? = some x) := Lib.hid (by rw [List.getElem?_drop, show p + (nn - p) = nn by omega]; exact hx)
            have qn : decide ((nn : Int) < (s.size : Int)) = true := decide_eq_true (by omega)
            have qn2 : decide (nn < s.size) = true := decide_eq_true hnl
            have HCX := HCL (bz x)
            rw [clsZ_bz] at HCX
            clear hx
            rcases cls_range x with hk | hk | hk | hk | hk
            · rw [hk] at HCX
              have HKX := Lib.hid hk
              clear hk
              unfold bz at HCX
              have HR2 := Lib.hid (dLen_stop HRN.out HXD.out (not_of fun h => by have := cls_dig.2 h; have h2 := HKX.out; omega))
              have HXT : Hid (s.extract p nn = mk (((tl s).drop p).take (nn - p))) := Lib.hid (by rw [← ex_tok, show p + (nn - p) = nn by omega])
              have HTX : Hid (tl (s.extract p nn) = ((tl s).drop p).take (dLen ((tl s).drop p))) := Lib.hid (by rw [HXT.out, tl_mk, HR2.out])
              have HSX : Hid ((s.extract p nn).size = nn - p) := Lib.hid (by rw [HXT.out, mk_size, List.length_take, List.length_drop, HLEN.out]; omega)
              have HNM := fun W => Lib.hid (rnumber_any (s.extract p nn) W (by rw [HSX.out]; omega) (by rw [HSX.out]; omega) (by rw [HTX.out]; exact dLen_all _))
              have hacc : acc.length ≤ 1500 := by omega
              have HWL : Hid (wLen ((tl s).drop p) = dLen ((tl s).drop p)) := Lib.hid (wLen_dLen fun y hy => by
                rw [HR2.out, HXD.out] at hy
                cases hy
                exact not_of fun h => by have := cls_wd.1 h; have h2 := HKX.out; omega)
              cases hok : numOK (tl (s.extract p nn)) with
              | true =>
                have hnv := numV_small (w := tl (s.extract p nn)) (by rw [HTX.out]; exact dLen_all _) (by
                  unfold numOK numLong at hok
                  rw [tl_len]
                  rcases Nat.lt_or_ge 5 (s.extract p nn).size with h5 | h5
                  · rw [tl_len, decide_eq_true h5] at hok; simp at hok
                  · exact h5)
                have HRV : Hid (numR (tl (s.extract p nn)) = numV (tl (s.extract p nn))) := Lib.hid (by unfold numR; rw [hok, if_pos rfl])
                have HNV : Hid (numV (tl (s.extract p nn)) = numV (((tl s).drop p).take (wLen ((tl s).drop p)))) := Lib.hid (by rw [HTX.out, HWL.out])
                have HF2 : Hid (lxFirst ((tl s).drop p) = some (2, nn - p, numV (tl (s.extract p nn)))) := Lib.hid (by rw [HF.out, ← HNV.out, HWL.out, HR2.out, if_pos (by rw [← HR2.out, ← HTX.out]; exact hok)])
                obtain ⟨hat2, hm0, hml⟩ := HAT.out.jump hlt HF2.out
                rw [show p + (nn - p) = nn by omega] at hat2
                have HAT2 := Lib.hid hat2
                rw [HRV.out] at HNM
                clear hat2 hok HNV HRV HF HF2
                generalize numV (tl (s.extract p nn)) = NV at *
                have qv : decide (NV < 0) = false := decide_eq_false (by omega)
                go_wp2_with ((with_reducible refine wpList_at ⟨some 58, _, _, _, _, _⟩ ?_); refine wpList_valueG rfl _ (by exact exec_idxS _ _ _ _ rfl Tryd.underlying9 s rfl .i64 nn rfl x HX.out _ rfl) ?_)
                refine (HCX _).out.mono ?_
                rintro _ _ ⟨rfl, rfl⟩
                go_wp2_with (first
                  | (with_reducible refine wpList_alloc_row (o := ⟨some 10, _, _, _, _, _⟩) rfl _ rfl zeroTk zero_tk ?_; intro w4 r4 z4 g4; have B4 := below_kept hB g4 hB.size (by simp); have own4 := own.kept g4 (by cases v : Value.ownBlock _ <;> simp); have ne4 := own_ge_ne own (Nat.le_refl _))
                  | ((with_reducible refine wpList_at ⟨none, .store _ (.tmp 10) _, _, _, _, _⟩ ?_); refine wpList_store_all rfl _ _ _ rfl wr.heap.size rfl _ _ r4 (Tk.cs ⟨2, s.extract p nn, 0, (p : Int)⟩) rfl (Tk.cs_one _) rfl (by kernel_rfl) ?_; intro w5 r5 g5; have z5 := g5.size; have B5 := below_kept B4 g5 B4.size (by rintro q hq; cases hq; omega); have own5 := own4.kept g5 (.inr ne4); have c52 := r5.cell (j := 2) rfl))
                refine (HNM _).out.mono ?_
                rintro _ _ ⟨rfl, rfl⟩
                go_wp2_with (first
                  | ((with_reducible refine wpList_at ⟨none, .store _ (.tmp 98) _, _, _, _, _⟩ ?_); refine wpList_store_elem rfl _ _ _ rfl wr.heap.size 2 rfl _ _ r5 (.int .i64 NV) rfl rfl (by show 2 < 4; decide) (by kernel_rfl) ?_; intro w6 r6 g6; have z6 := g6.size; have B6 := below_kept B5 g6 B5.size (by rintro q hq; cases hq; omega); have own6 := own5.kept g6 (.inr ne4); have c62 := r6.cell (j := 2) rfl)
                  | ((with_reducible refine wpList_at ⟨some 105, _, _, _, _, _⟩ ?_); refine wpList_valueG rfl _ (by exact exec_idxS _ _ _ _ rfl Tryd.underlying9 s rfl .i64 nn rfl x HX.out _ rfl) ?_))
                refine (HCX _).out.mono ?_
                rintro _ _ ⟨rfl, rfl⟩
                go_wp2_with (first
                  | ((with_reducible refine wpList_at ⟨some 119, _, _, _, _, _⟩ ?_); refine wpList_valueG rfl _ (by exact exec_loadTk _ _ rfl ⟨wr.heap.size, 0, none⟩ rfl ⟨2, s.extract p nn, NV, (p : Int)⟩ r6.cells) ?_)
                  | ((with_reducible refine wpList_at ⟨some 120, _, _, _, _, _⟩ ?_); refine wpList_valueW (o := ⟨some 120, _, _, _, _, _⟩) rfl _ (by exact exec_slice1 _ 23 30 _ rfl Tryd.underlying23 i0 _ hi0 hz0 (Tk.cs ⟨2, s.extract p nn, NV, (p : Int)⟩) (by rw [hz1]; rfl) (by show 0 < 4; decide) (by show 4 ≤ 1000; decide) rfl) ?_)
                  | (at_builtin; have bx : Below w6.heap.size w6 (w6.alloc (.cells (Tk.cs ⟨2, s.extract p nn, NV, (p : Int)⟩).toArray 30)) := (Below.refl _ _).alloc (Nat.le_refl _) _; have ownx := own_below own6 bx; have zx := bx.size; refine wpList_append_at9 rfl (.tmp 118) (.tmp 120) _ _ rfl w.heap.size 30 i0 _ 4 40 Tryd.underlying23 hi0 hz0 hz1 hz2 rfl _ _ _ rfl ownx 1 (Tk.cs ⟨2, s.extract p nn, NV, (p : Int)⟩) (boxRow9 Tryd.underlying23 _ _ _ 4 rfl (Tk.cs_one _) _) (by unfold maxLen; omega) (by omega) (by omega) ?_; intro vz wz ownz gz obz; have Bz := below_kept (B6.trans (bx.mono B6.size)) gz (Nat.le_trans B6.size bx.size) (by intro q hq; exact (ownx.lt q hq).1)))
                have HTV : Hid (tks acc ++ Tk.cs ⟨2, s.extract p nn, NV, (p : Int)⟩ = tks (acc ++ [⟨2, mk (((tl s).drop p).take (nn - p)), NV, (p : Int)⟩])) := Lib.hid (by rw [tks_snoc, HXT.out])
                rw [HTV.out] at ownz
                go_wp2_with fail
                go_roundg (s.size - nn)
                case measure => have := HP.out; omega
                case rel => exact ⟨nn, _, by have := HP.out; show _ = _; omega, rfl, by rw [List.length_append, List.length_singleton]; exact ownz, Bz, HAT2.out⟩
              | false =>
                have HRV : Hid (numR (tl (s.extract p nn)) = -1) := Lib.hid (by unfold numR; rw [hok, if_neg (by decide)])
                have HTK := Lib.hid (tk_none (HAT.out.bad HC.out (Nat.le_refl _) HNW.out (by rw [HF.out, HWL.out, ← HTX.out, hok, if_neg (by decide)])))
                rw [HRV.out] at HNM
                clear hok
                go_wp2_with ((with_reducible refine wpList_at ⟨some 58, _, _, _, _, _⟩ ?_); refine wpList_valueG rfl _ (by exact exec_idxS _ _ _ _ rfl Tryd.underlying9 s rfl .i64 nn rfl x HX.out _ rfl) ?_)
                refine (HCX _).out.mono ?_
                rintro _ _ ⟨rfl, rfl⟩
                go_wp2_with (first
                  | (with_reducible refine wpList_alloc_row (o := ⟨some 10, _, _, _, _, _⟩) rfl _ rfl zeroTk zero_tk ?_; intro w4 r4 z4 g4; have B4 := below_kept hB g4 hB.size (by simp); have own4 := own.kept g4 (by cases v : Value.ownBlock _ <;> simp); have ne4 := own_ge_ne own (Nat.le_refl _))
                  | ((with_reducible refine wpList_at ⟨none, .store _ (.tmp 10) _, _, _, _, _⟩ ?_); refine wpList_store_all rfl _ _ _ rfl wr.heap.size rfl _ _ r4 (Tk.cs ⟨2, s.extract p nn, 0, (p : Int)⟩) rfl (Tk.cs_one _) rfl (by kernel_rfl) ?_; intro w5 r5 g5; have z5 := g5.size; have B5 := below_kept B4 g5 B4.size (by rintro q hq; cases hq; omega); have own5 := own4.kept g5 (.inr ne4); have c52 := r5.cell (j := 2) rfl))
                refine (HNM _).out.mono ?_
                rintro _ _ ⟨rfl, rfl⟩
                go_wp2_with (first
                  | ((with_reducible refine wpList_at ⟨none, .store _ (.tmp 98) _, _, _, _, _⟩ ?_); refine wpList_store_elem rfl _ _ _ rfl wr.heap.size 2 rfl _ _ r5 (.int .i64 (-1)) rfl rfl (by show 2 < 4; decide) (by kernel_rfl) ?_; intro w6 r6 g6; have z6 := g6.size; have B6 := below_kept B5 g6 B5.size (by rintro q hq; cases hq; omega); have own6 := own5.kept g6 (.inr ne4); have c62 := r6.cell (j := 2) rfl)
                  | ((with_reducible refine wpList_at ⟨some 105, _, _, _, _, _⟩ ?_); refine wpList_valueG rfl _ (by exact exec_idxS _ _ _ _ rfl Tryd.underlying9 s rfl .i64 nn rfl x HX.out _ rfl) ?_))
                refine (HCX _).out.mono ?_
                rintro _ _ ⟨rfl, rfl⟩
                go_wp2_with fail
                go_ret2
                exact ⟨none, 0, 0, by rw [HTK.out.2]; rfl, by rw [HTK.out.1]; exact Reads.nil_, Nat.le_refl _, by omega, B6⟩
            · rw [hk] at HCX
              have HKX := Lib.hid hk
              clear hk
              unfold bz at HCX
              have HR2 := Lib.hid (dLen_stop HRN.out HXD.out (not_of fun h => by have := cls_dig.2 h; have h2 := HKX.out; omega))
              have HXT : Hid (s.extract p nn = mk (((tl s).drop p).take (nn - p))) := Lib.hid (by rw [← ex_tok, show p + (nn - p) = nn by omega])
              have HTX : Hid (tl (s.extract p nn) = ((tl s).drop p).take (dLen ((tl s).drop p))) := Lib.hid (by rw [HXT.out, tl_mk, HR2.out])
              have HSX : Hid ((s.extract p nn).size = nn - p) := Lib.hid (by rw [HXT.out, mk_size, List.length_take, List.length_drop, HLEN.out]; omega)
              have HNM := fun W => Lib.hid (rnumber_any (s.extract p nn) W (by rw [HSX.out]; omega) (by rw [HSX.out]; omega) (by rw [HTX.out]; exact dLen_all _))
              have hacc : acc.length ≤ 1500 := by omega
              have HTK := Lib.hid (tk_none (HAT.out.bad HC.out (Nat.le_refl _) HNW.out (by
                rw [HF.out, if_neg]
                rw [dig_bad (by rw [HR2.out]; exact HXD.out) (cls_wd.2 (by have h2 := HKX.out; omega))]
                decide)))
              generalize numR (tl (s.extract p nn)) = NV at *
              cases qv : decide (NV < 0) with
              | true =>
                go_wp2_with ((with_reducible refine wpList_at ⟨some 58, _, _, _, _, _⟩ ?_); refine wpList_valueG rfl _ (by exact exec_idxS _ _ _ _ rfl Tryd.underlying9 s rfl .i64 nn rfl x HX.out _ rfl) ?_)
                refine (HCX _).out.mono ?_
                rintro _ _ ⟨rfl, rfl⟩
                go_wp2_with (first
                  | (with_reducible refine wpList_alloc_row (o := ⟨some 10, _, _, _, _, _⟩) rfl _ rfl zeroTk zero_tk ?_; intro w4 r4 z4 g4; have B4 := below_kept hB g4 hB.size (by simp); have own4 := own.kept g4 (by cases v : Value.ownBlock _ <;> simp); have ne4 := own_ge_ne own (Nat.le_refl _))
                  | ((with_reducible refine wpList_at ⟨none, .store _ (.tmp 10) _, _, _, _, _⟩ ?_); refine wpList_store_all rfl _ _ _ rfl wr.heap.size rfl _ _ r4 (Tk.cs ⟨2, s.extract p nn, 0, (p : Int)⟩) rfl (Tk.cs_one _) rfl (by kernel_rfl) ?_; intro w5 r5 g5; have z5 := g5.size; have B5 := below_kept B4 g5 B4.size (by rintro q hq; cases hq; omega); have own5 := own4.kept g5 (.inr ne4); have c52 := r5.cell (j := 2) rfl))
                refine (HNM _).out.mono ?_
                rintro _ _ ⟨rfl, rfl⟩
                go_wp2_with (first
                  | ((with_reducible refine wpList_at ⟨none, .store _ (.tmp 98) _, _, _, _, _⟩ ?_); refine wpList_store_elem rfl _ _ _ rfl wr.heap.size 2 rfl _ _ r5 (.int .i64 NV) rfl rfl (by show 2 < 4; decide) (by kernel_rfl) ?_; intro w6 r6 g6; have z6 := g6.size; have B6 := below_kept B5 g6 B5.size (by rintro q hq; cases hq; omega); have own6 := own5.kept g6 (.inr ne4); have c62 := r6.cell (j := 2) rfl)
                  | ((with_reducible refine wpList_at ⟨some 105, _, _, _, _, _⟩ ?_); refine wpList_valueG rfl _ (by exact exec_idxS _ _ _ _ rfl Tryd.underlying9 s rfl .i64 nn rfl x HX.out _ rfl) ?_))
                refine (HCX _).out.mono ?_
                rintro _ _ ⟨rfl, rfl⟩
                go_wp2_with fail
                go_ret2
                exact ⟨none, 0, 0, by rw [HTK.out.2]; rfl, by rw [HTK.out.1]; exact Reads.nil_, Nat.le_refl _, by omega, B6⟩
              | false =>
                go_wp2_with ((with_reducible refine wpList_at ⟨some 58, _, _, _, _, _⟩ ?_); refine wpList_valueG rfl _ (by exact exec_idxS _ _ _ _ rfl Tryd.underlying9 s rfl .i64 nn rfl x HX.out _ rfl) ?_)
                refine (HCX _).out.mono ?_
                rintro _ _ ⟨rfl, rfl⟩
                go_wp2_with (first
                  | (with_reducible refine wpList_alloc_row (o := ⟨some 10, _, _, _, _, _⟩) rfl _ rfl zeroTk zero_tk ?_; intro w4 r4 z4 g4; have B4 := below_kept hB g4 hB.size (by simp); have own4 := own.kept g4 (by cases v : Value.ownBlock _ <;> simp); have ne4 := own_ge_ne own (Nat.le_refl _))
                  | ((with_reducible refine wpList_at ⟨none, .store _ (.tmp 10) _, _, _, _, _⟩ ?_); refine wpList_store_all rfl _ _ _ rfl wr.heap.size rfl _ _ r4 (Tk.cs ⟨2, s.extract p nn, 0, (p : Int)⟩) rfl (Tk.cs_one _) rfl (by kernel_rfl) ?_; intro w5 r5 g5; have z5 := g5.size; have B5 := below_kept B4 g5 B4.size (by rintro q hq; cases hq; omega); have own5 := own4.kept g5 (.inr ne4); have c52 := r5.cell (j := 2) rfl))
                refine (HNM _).out.mono ?_
                rintro _ _ ⟨rfl, rfl⟩
                go_wp2_with (first
                  | ((with_reducible refine wpList_at ⟨none, .store _ (.tmp 98) _, _, _, _, _⟩ ?_); refine wpList_store_elem rfl _ _ _ rfl wr.heap.size 2 rfl _ _ r5 (.int .i64 NV) rfl rfl (by show 2 < 4; decide) (by kernel_rfl) ?_; intro w6 r6 g6; have z6 := g6.size; have B6 := below_kept B5 g6 B5.size (by rintro q hq; cases hq; omega); have own6 := own5.kept g6 (.inr ne4); have c62 := r6.cell (j := 2) rfl)
                  | ((with_reducible refine wpList_at ⟨some 105, _, _, _, _, _⟩ ?_); refine wpList_valueG rfl _ (by exact exec_idxS _ _ _ _ rfl Tryd.underlying9 s rfl .i64 nn rfl x HX.out _ rfl) ?_))
                refine (HCX _).out.mono ?_
                rintro _ _ ⟨rfl, rfl⟩
                go_wp2_with fail
                go_ret2
                exact ⟨none, 0, 0, by rw [HTK.out.2]; rfl, by rw [HTK.out.1]; exact Reads.nil_, Nat.le_refl _, by omega, B6⟩
            · rw [hk] at HCX
              have HKX := Lib.hid hk
              clear hk
              unfold bz at HCX
              have HR2 := Lib.hid (dLen_step HRN.out HXD.out (cls_dig.1 HKX.out))
              go_wp2_with ((with_reducible refine wpList_at ⟨some 58, _, _, _, _, _⟩ ?_); refine wpList_valueG rfl _ (by exact exec_idxS _ _ _ _ rfl Tryd.underlying9 s rfl .i64 nn rfl x HX.out _ rfl) ?_)
              refine (HCX _).out.mono ?_
              rintro _ _ ⟨rfl, rfl⟩
              go_wp2_with fail
              go_roundg (gk - 1)
              case measure => have := HNN.out; omega
              case rel => exact ⟨nn + 1, by have := HNN.out; show _ = _; omega, by omega, by omega, by go_num, by rw [show nn + 1 - p = nn - p + 1 by omega]; exact HR2, rfl⟩
            · rw [hk] at HCX
              have HKX := Lib.hid hk
              clear hk
              unfold bz at HCX
              have HR2 := Lib.hid (dLen_stop HRN.out HXD.out (not_of fun h => by have := cls_dig.2 h; have h2 := HKX.out; omega))
              have HXT : Hid (s.extract p nn = mk (((tl s).drop p).take (nn - p))) := Lib.hid (by rw [← ex_tok, show p + (nn - p) = nn by omega])
              have HTX : Hid (tl (s.extract p nn) = ((tl s).drop p).take (dLen ((tl s).drop p))) := Lib.hid (by rw [HXT.out, tl_mk, HR2.out])
              have HSX : Hid ((s.extract p nn).size = nn - p) := Lib.hid (by rw [HXT.out, mk_size, List.length_take, List.length_drop, HLEN.out]; omega)
              have HNM := fun W => Lib.hid (rnumber_any (s.extract p nn) W (by rw [HSX.out]; omega) (by rw [HSX.out]; omega) (by rw [HTX.out]; exact dLen_all _))
              have hacc : acc.length ≤ 1500 := by omega
              have HTK := Lib.hid (tk_none (HAT.out.bad HC.out (Nat.le_refl _) HNW.out (by
                rw [HF.out, if_neg]
                rw [dig_bad (by rw [HR2.out]; exact HXD.out) (cls_wd.2 (by have h2 := HKX.out; omega))]
                decide)))
              generalize numR (tl (s.extract p nn)) = NV at *
              cases qv : decide (NV < 0) with
              | true =>
                go_wp2_with ((with_reducible refine wpList_at ⟨some 58, _, _, _, _, _⟩ ?_); refine wpList_valueG rfl _ (by exact exec_idxS _ _ _ _ rfl Tryd.underlying9 s rfl .i64 nn rfl x HX.out _ rfl) ?_)
                refine (HCX _).out.mono ?_
                rintro _ _ ⟨rfl, rfl⟩
                go_wp2_with (first
                  | (with_reducible refine wpList_alloc_row (o := ⟨some 10, _, _, _, _, _⟩) rfl _ rfl zeroTk zero_tk ?_; intro w4 r4 z4 g4; have B4 := below_kept hB g4 hB.size (by simp); have own4 := own.kept g4 (by cases v : Value.ownBlock _ <;> simp); have ne4 := own_ge_ne own (Nat.le_refl _))
                  | ((with_reducible refine wpList_at ⟨none, .store _ (.tmp 10) _, _, _, _, _⟩ ?_); refine wpList_store_all rfl _ _ _ rfl wr.heap.size rfl _ _ r4 (Tk.cs ⟨2, s.extract p nn, 0, (p : Int)⟩) rfl (Tk.cs_one _) rfl (by kernel_rfl) ?_; intro w5 r5 g5; have z5 := g5.size; have B5 := below_kept B4 g5 B4.size (by rintro q hq; cases hq; omega); have own5 := own4.kept g5 (.inr ne4); have c52 := r5.cell (j := 2) rfl))
                refine (HNM _).out.mono ?_
                rintro _ _ ⟨rfl, rfl⟩
                go_wp2_with (first
                  | ((with_reducible refine wpList_at ⟨none, .store _ (.tmp 98) _, _, _, _, _⟩ ?_); refine wpList_store_elem rfl _ _ _ rfl wr.heap.size 2 rfl _ _ r5 (.int .i64 NV) rfl rfl (by show 2 < 4; decide) (by kernel_rfl) ?_; intro w6 r6 g6; have z6 := g6.size; have B6 := below_kept B5 g6 B5.size (by rintro q hq; cases hq; omega); have own6 := own5.kept g6 (.inr ne4); have c62 := r6.cell (j := 2) rfl)
                  | ((with_reducible refine wpList_at ⟨some 105, _, _, _, _, _⟩ ?_); refine wpList_valueG rfl _ (by exact exec_idxS _ _ _ _ rfl Tryd.underlying9 s rfl .i64 nn rfl x HX.out _ rfl) ?_))
                refine (HCX _).out.mono ?_
                rintro _ _ ⟨rfl, rfl⟩
                go_wp2_with fail
                go_ret2
                exact ⟨none, 0, 0, by rw [HTK.out.2]; rfl, by rw [HTK.out.1]; exact Reads.nil_, Nat.le_refl _, by omega, B6⟩
              | false =>
                go_wp2_with ((with_reducible refine wpList_at ⟨some 58, _, _, _, _, _⟩ ?_); refine wpList_valueG rfl _ (by exact exec_idxS _ _ _ _ rfl Tryd.underlying9 s rfl .i64 nn rfl x HX.out _ rfl) ?_)
                refine (HCX _).out.mono ?_
                rintro _ _ ⟨rfl, rfl⟩
                go_wp2_with (first
                  | (with_reducible refine wpList_alloc_row (o := ⟨some 10, _, _, _, _, _⟩) rfl _ rfl zeroTk zero_tk ?_; intro w4 r4 z4 g4; have B4 := below_kept hB g4 hB.size (by simp); have own4 := own.kept g4 (by cases v : Value.ownBlock _ <;> simp); have ne4 := own_ge_ne own (Nat.le_refl _))
                  | ((with_reducible refine wpList_at ⟨none, .store _ (.tmp 10) _, _, _, _, _⟩ ?_); refine wpList_store_all rfl _ _ _ rfl wr.heap.size rfl _ _ r4 (Tk.cs ⟨2, s.extract p nn, 0, (p : Int)⟩) rfl (Tk.cs_one _) rfl (by kernel_rfl) ?_; intro w5 r5 g5; have z5 := g5.size; have B5 := below_kept B4 g5 B4.size (by rintro q hq; cases hq; omega); have own5 := own4.kept g5 (.inr ne4); have c52 := r5.cell (j := 2) rfl))
                refine (HNM _).out.mono ?_
                rintro _ _ ⟨rfl, rfl⟩
                go_wp2_with (first
                  | ((with_reducible refine wpList_at ⟨none, .store _ (.tmp 98) _, _, _, _, _⟩ ?_); refine wpList_store_elem rfl _ _ _ rfl wr.heap.size 2 rfl _ _ r5 (.int .i64 NV) rfl rfl (by show 2 < 4; decide) (by kernel_rfl) ?_; intro w6 r6 g6; have z6 := g6.size; have B6 := below_kept B5 g6 B5.size (by rintro q hq; cases hq; omega); have own6 := own5.kept g6 (.inr ne4); have c62 := r6.cell (j := 2) rfl)
                  | ((with_reducible refine wpList_at ⟨some 105, _, _, _, _, _⟩ ?_); refine wpList_valueG rfl _ (by exact exec_idxS _ _ _ _ rfl Tryd.underlying9 s rfl .i64 nn rfl x HX.out _ rfl) ?_))
                refine (HCX _).out.mono ?_
                rintro _ _ ⟨rfl, rfl⟩
                go_wp2_with fail
                go_ret2
                exact ⟨none, 0, 0, by rw [HTK.out.2]; rfl, by rw [HTK.out.1]; exact Reads.nil_, Nat.le_refl _, by omega, B6⟩
            · rw [hk] at HCX
              have HKX := Lib.hid hk
              clear hk
              unfold bz at HCX
              have HR2 := Lib.hid (dLen_stop HRN.out HXD.out (not_of fun h => by have := cls_dig.2 h; have h2 := HKX.out; omega))
              have HXT : Hid (s.extract p nn = mk (((tl s).drop p).take (nn - p))) := Lib.hid (by rw [← ex_tok, show p + (nn - p) = nn by omega])
              have HTX : Hid (tl (s.extract p nn) = ((tl s).drop p).take (dLen ((tl s).drop p))) := Lib.hid (by rw [HXT.out, tl_mk, HR2.out])
              have HSX : Hid ((s.extract p nn).size = nn - p) := Lib.hid (by rw [HXT.out, mk_size, List.length_take, List.length_drop, HLEN.out]; omega)
              have HNM := fun W => Lib.hid (rnumber_any (s.extract p nn) W (by rw [HSX.out]; omega) (by rw [HSX.out]; omega) (by rw [HTX.out]; exact dLen_all _))
              have hacc : acc.length ≤ 1500 := by omega
              have HWL : Hid (wLen ((tl s).drop p) = dLen ((tl s).drop p)) := Lib.hid (wLen_dLen fun y hy => by
                rw [HR2.out, HXD.out] at hy
                cases hy
                exact not_of fun h => by have := cls_wd.1 h; have h2 := HKX.out; omega)
              cases hok : numOK (tl (s.extract p nn)) with
              | true =>
                have hnv := numV_small (w := tl (s.extract p nn)) (by rw [HTX.out]; exact dLen_all _) (by
                  unfold numOK numLong at hok
                  rw [tl_len]
                  rcases Nat.lt_or_ge 5 (s.extract p nn).size with h5 | h5
                  · rw [tl_len, decide_eq_true h5] at hok; simp at hok
                  · exact h5)
                have HRV : Hid (numR (tl (s.extract p nn)) = numV (tl (s.extract p nn))) := Lib.hid (by unfold numR; rw [hok, if_pos rfl])
                have HNV : Hid (numV (tl (s.extract p nn)) = numV (((tl s).drop p).take (wLen ((tl s).drop p)))) := Lib.hid (by rw [HTX.out, HWL.out])
                have HF2 : Hid (lxFirst ((tl s).drop p) = some (2, nn - p, numV (tl (s.extract p nn)))) := Lib.hid (by rw [HF.out, ← HNV.out, HWL.out, HR2.out, if_pos (by rw [← HR2.out, ← HTX.out]; exact hok)])
                obtain ⟨hat2, hm0, hml⟩ := HAT.out.jump hlt HF2.out
                rw [show p + (nn - p) = nn by omega] at hat2
                have HAT2 := Lib.hid hat2
                rw [HRV.out] at HNM
                clear hat2 hok HNV HRV HF HF2
                generalize numV (tl (s.extract p nn)) = NV at *
                have qv : decide (NV < 0) = false := decide_eq_false (by omega)
                go_wp2_with ((with_reducible refine wpList_at ⟨some 58, _, _, _, _, _⟩ ?_); refine wpList_valueG rfl _ (by exact exec_idxS _ _ _ _ rfl Tryd.underlying9 s rfl .i64 nn rfl x HX.out _ rfl) ?_)
                refine (HCX _).out.mono ?_
                rintro _ _ ⟨rfl, rfl⟩
                go_wp2_with (first
                  | (with_reducible refine wpList_alloc_row (o := ⟨some 10, _, _, _, _, _⟩) rfl _ rfl zeroTk zero_tk ?_; intro w4 r4 z4 g4; have B4 := below_kept hB g4 hB.size (by simp); have own4 := own.kept g4 (by cases v : Value.ownBlock _ <;> simp); have ne4 := own_ge_ne own (Nat.le_refl _))
                  | ((with_reducible refine wpList_at ⟨none, .store _ (.tmp 10) _, _, _, _, _⟩ ?_); refine wpList_store_all rfl _ _ _ rfl wr.heap.size rfl _ _ r4 (Tk.cs ⟨2, s.extract p nn, 0, (p : Int)⟩) rfl (Tk.cs_one _) rfl (by kernel_rfl) ?_; intro w5 r5 g5; have z5 := g5.size; have B5 := below_kept B4 g5 B4.size (by rintro q hq; cases hq; omega); have own5 := own4.kept g5 (.inr ne4); have c52 := r5.cell (j := 2) rfl))
                refine (HNM _).out.mono ?_
                rintro _ _ ⟨rfl, rfl⟩
                go_wp2_with (first
                  | ((with_reducible refine wpList_at ⟨none, .store _ (.tmp 98) _, _, _, _, _⟩ ?_); refine wpList_store_elem rfl _ _ _ rfl wr.heap.size 2 rfl _ _ r5 (.int .i64 NV) rfl rfl (by show 2 < 4; decide) (by kernel_rfl) ?_; intro w6 r6 g6; have z6 := g6.size; have B6 := below_kept B5 g6 B5.size (by rintro q hq; cases hq; omega); have own6 := own5.kept g6 (.inr ne4); have c62 := r6.cell (j := 2) rfl)
                  | ((with_reducible refine wpList_at ⟨some 105, _, _, _, _, _⟩ ?_); refine wpList_valueG rfl _ (by exact exec_idxS _ _ _ _ rfl Tryd.underlying9 s rfl .i64 nn rfl x HX.out _ rfl) ?_))
                refine (HCX _).out.mono ?_
                rintro _ _ ⟨rfl, rfl⟩
                go_wp2_with (first
                  | ((with_reducible refine wpList_at ⟨some 119, _, _, _, _, _⟩ ?_); refine wpList_valueG rfl _ (by exact exec_loadTk _ _ rfl ⟨wr.heap.size, 0, none⟩ rfl ⟨2, s.extract p nn, NV, (p : Int)⟩ r6.cells) ?_)
                  | ((with_reducible refine wpList_at ⟨some 120, _, _, _, _, _⟩ ?_); refine wpList_valueW (o := ⟨some 120, _, _, _, _, _⟩) rfl _ (by exact exec_slice1 _ 23 30 _ rfl Tryd.underlying23 i0 _ hi0 hz0 (Tk.cs ⟨2, s.extract p nn, NV, (p : Int)⟩) (by rw [hz1]; rfl) (by show 0 < 4; decide) (by show 4 ≤ 1000; decide) rfl) ?_)
                  | (at_builtin; have bx : Below w6.heap.size w6 (w6.alloc (.cells (Tk.cs ⟨2, s.extract p nn, NV, (p : Int)⟩).toArray 30)) := (Below.refl _ _).alloc (Nat.le_refl _) _; have ownx := own_below own6 bx; have zx := bx.size; refine wpList_append_at9 rfl (.tmp 118) (.tmp 120) _ _ rfl w.heap.size 30 i0 _ 4 40 Tryd.underlying23 hi0 hz0 hz1 hz2 rfl _ _ _ rfl ownx 1 (Tk.cs ⟨2, s.extract p nn, NV, (p : Int)⟩) (boxRow9 Tryd.underlying23 _ _ _ 4 rfl (Tk.cs_one _) _) (by unfold maxLen; omega) (by omega) (by omega) ?_; intro vz wz ownz gz obz; have Bz := below_kept (B6.trans (bx.mono B6.size)) gz (Nat.le_trans B6.size bx.size) (by intro q hq; exact (ownx.lt q hq).1)))
                have HTV : Hid (tks acc ++ Tk.cs ⟨2, s.extract p nn, NV, (p : Int)⟩ = tks (acc ++ [⟨2, mk (((tl s).drop p).take (nn - p)), NV, (p : Int)⟩])) := Lib.hid (by rw [tks_snoc, HXT.out])
                rw [HTV.out] at ownz
                go_wp2_with fail
                go_roundg (s.size - nn)
                case measure => have := HP.out; omega
                case rel => exact ⟨nn, _, by have := HP.out; show _ = _; omega, rfl, by rw [List.length_append, List.length_singleton]; exact ownz, Bz, HAT2.out⟩
              | false =>
                have HRV : Hid (numR (tl (s.extract p nn)) = -1) := Lib.hid (by unfold numR; rw [hok, if_neg (by decide)])
                have HTK := Lib.hid (tk_none (HAT.out.bad HC.out (Nat.le_refl _) HNW.out (by rw [HF.out, HWL.out, ← HTX.out, hok, if_neg (by decide)])))
                rw [HRV.out] at HNM
                clear hok
                go_wp2_with ((with_reducible refine wpList_at ⟨some 58, _, _, _, _, _⟩ ?_); refine wpList_valueG rfl _ (by exact exec_idxS _ _ _ _ rfl Tryd.underlying9 s rfl .i64 nn rfl x HX.out _ rfl) ?_)
                refine (HCX _).out.mono ?_
                rintro _ _ ⟨rfl, rfl⟩
                go_wp2_with (first
                  | (with_reducible refine wpList_alloc_row (o := ⟨some 10, _, _, _, _, _⟩) rfl _ rfl zeroTk zero_tk ?_; intro w4 r4 z4 g4; have B4 := below_kept hB g4 hB.size (by simp); have own4 := own.kept g4 (by cases v : Value.ownBlock _ <;> simp); have ne4 := own_ge_ne own (Nat.le_refl _))
                  | ((with_reducible refine wpList_at ⟨none, .store _ (.tmp 10) _, _, _, _, _⟩ ?_); refine wpList_store_all rfl _ _ _ rfl wr.heap.size rfl _ _ r4 (Tk.cs ⟨2, s.extract p nn, 0, (p : Int)⟩) rfl (Tk.cs_one _) rfl (by kernel_rfl) ?_; intro w5 r5 g5; have z5 := g5.size; have B5 := below_kept B4 g5 B4.size (by rintro q hq; cases hq; omega); have own5 := own4.kept g5 (.inr ne4); have c52 := r5.cell (j := 2) rfl))
                refine (HNM _).out.mono ?_
                rintro _ _ ⟨rfl, rfl⟩
                go_wp2_with (first
                  | ((with_reducible refine wpList_at ⟨none, .store _ (.tmp 98) _, _, _, _, _⟩ ?_); refine wpList_store_elem rfl _ _ _ rfl wr.heap.size 2 rfl _ _ r5 (.int .i64 (-1)) rfl rfl (by show 2 < 4; decide) (by kernel_rfl) ?_; intro w6 r6 g6; have z6 := g6.size; have B6 := below_kept B5 g6 B5.size (by rintro q hq; cases hq; omega); have own6 := own5.kept g6 (.inr ne4); have c62 := r6.cell (j := 2) rfl)
                  | ((with_reducible refine wpList_at ⟨some 105, _, _, _, _, _⟩ ?_); refine wpList_valueG rfl _ (by exact exec_idxS _ _ _ _ rfl Tryd.underlying9 s rfl .i64 nn rfl x HX.out _ rfl) ?_))
                refine (HCX _).out.mono ?_
                rintro _ _ ⟨rfl, rfl⟩
                go_wp2_with fail
                go_ret2
                exact ⟨none, 0, 0, by rw [HTK.out.2]; rfl, by rw [HTK.out.1]; exact Reads.nil_, Nat.le_refl _, by omega, B6⟩
          · obtain rfl : nn = s.size := by omega
            have qn : decide ((s.size : Int) < (s.size : Int)) = false := decide_eq_false (by omega)
            have qn2 : decide (s.size < s.size) = false := decide_eq_false hnl
            have HR2 : Hid (dLen ((tl s).drop p) = s.size - p) := Lib.hid (by rw [dLen_end HRN.out (by rw [List.length_drop, HLEN.out]; exact Nat.le_refl _), List.length_drop, HLEN.out])
            have HXT : Hid (s.extract p s.size = mk (((tl s).drop p).take (s.size - p))) := Lib.hid (by rw [← ex_tok, show p + (s.size - p) = s.size by omega])
            have HTX : Hid (tl (s.extract p s.size) = ((tl s).drop p).take (dLen ((tl s).drop p))) := Lib.hid (by rw [HXT.out, tl_mk, HR2.out])
            have HSX : Hid ((s.extract p s.size).size = s.size - p) := Lib.hid (by rw [HXT.out, mk_size, List.length_take, List.length_drop, HLEN.out]; omega)
            have HNM := fun W => Lib.hid (rnumber_any (s.extract p s.size) W (by rw [HSX.out]; omega) (by rw [HSX.out]; omega) (by rw [HTX.out]; exact dLen_all _))
            have hacc : acc.length ≤ 1500 := by omega
            have HWL : Hid (wLen ((tl s).drop p) = dLen ((tl s).drop p)) := Lib.hid (wLen_dLen fun y hy => by
              rw [HR2.out, List.getElem?_eq_none (by rw [List.length_drop, HLEN.out]; exact Nat.le_refl _)] at hy
              cases hy)
            cases hok : numOK (tl (s.extract p s.size)) with
            | true =>
              have hnv := numV_small (w := tl (s.extract p s.size)) (by rw [HTX.out]; exact dLen_all _) (by
                unfold numOK numLong at hok
                rw [tl_len]
                rcases Nat.lt_or_ge 5 (s.extract p s.size).size with h5 | h5
                · rw [tl_len, decide_eq_true h5] at hok; simp at hok
                · exact h5)
              have HRV : Hid (numR (tl (s.extract p s.size)) = numV (tl (s.extract p s.size))) := Lib.hid (by unfold numR; rw [hok, if_pos rfl])
              have HNV : Hid (numV (tl (s.extract p s.size)) = numV (((tl s).drop p).take (wLen ((tl s).drop p)))) := Lib.hid (by rw [HTX.out, HWL.out])
              have HF2 : Hid (lxFirst ((tl s).drop p) = some (2, s.size - p, numV (tl (s.extract p s.size)))) := Lib.hid (by rw [HF.out, ← HNV.out, HWL.out, HR2.out, if_pos (by rw [← HR2.out, ← HTX.out]; exact hok)])
              obtain ⟨hat2, hm0, hml⟩ := HAT.out.jump hlt HF2.out
              rw [show p + (s.size - p) = s.size by omega] at hat2
              have HAT2 := Lib.hid hat2
              rw [HRV.out] at HNM
              clear hat2 hok HNV HRV HF HF2
              generalize numV (tl (s.extract p s.size)) = NV at *
              have qv : decide (NV < 0) = false := decide_eq_false (by omega)
              go_wp2_with (first
                | (with_reducible refine wpList_alloc_row (o := ⟨some 10, _, _, _, _, _⟩) rfl _ rfl zeroTk zero_tk ?_; intro w4 r4 z4 g4; have B4 := below_kept hB g4 hB.size (by simp); have own4 := own.kept g4 (by cases v : Value.ownBlock _ <;> simp); have ne4 := own_ge_ne own (Nat.le_refl _))
                | ((with_reducible refine wpList_at ⟨none, .store _ (.tmp 10) _, _, _, _, _⟩ ?_); refine wpList_store_all rfl _ _ _ rfl wr.heap.size rfl _ _ r4 (Tk.cs ⟨2, s.extract p s.size, 0, (p : Int)⟩) rfl (Tk.cs_one _) rfl (by kernel_rfl) ?_; intro w5 r5 g5; have z5 := g5.size; have B5 := below_kept B4 g5 B4.size (by rintro q hq; cases hq; omega); have own5 := own4.kept g5 (.inr ne4); have c52 := r5.cell (j := 2) rfl))
              refine (HNM _).out.mono ?_
              rintro _ _ ⟨rfl, rfl⟩
              go_wp2_with (first
                | ((with_reducible refine wpList_at ⟨none, .store _ (.tmp 98) _, _, _, _, _⟩ ?_); refine wpList_store_elem rfl _ _ _ rfl wr.heap.size 2 rfl _ _ r5 (.int .i64 NV) rfl rfl (by show 2 < 4; decide) (by kernel_rfl) ?_; intro w6 r6 g6; have z6 := g6.size; have B6 := below_kept B5 g6 B5.size (by rintro q hq; cases hq; omega); have own6 := own5.kept g6 (.inr ne4); have c62 := r6.cell (j := 2) rfl)
                | ((with_reducible refine wpList_at ⟨some 119, _, _, _, _, _⟩ ?_); refine wpList_valueG rfl _ (by exact exec_loadTk _ _ rfl ⟨wr.heap.size, 0, none⟩ rfl ⟨2, s.extract p s.size, NV, (p : Int)⟩ r6.cells) ?_)
                | ((with_reducible refine wpList_at ⟨some 120, _, _, _, _, _⟩ ?_); refine wpList_valueW (o := ⟨some 120, _, _, _, _, _⟩) rfl _ (by exact exec_slice1 _ 23 30 _ rfl Tryd.underlying23 i0 _ hi0 hz0 (Tk.cs ⟨2, s.extract p s.size, NV, (p : Int)⟩) (by rw [hz1]; rfl) (by show 0 < 4; decide) (by show 4 ≤ 1000; decide) rfl) ?_)
                | (at_builtin; have bx : Below w6.heap.size w6 (w6.alloc (.cells (Tk.cs ⟨2, s.extract p s.size, NV, (p : Int)⟩).toArray 30)) := (Below.refl _ _).alloc (Nat.le_refl _) _; have ownx := own_below own6 bx; have zx := bx.size; refine wpList_append_at9 rfl (.tmp 118) (.tmp 120) _ _ rfl w.heap.size 30 i0 _ 4 40 Tryd.underlying23 hi0 hz0 hz1 hz2 rfl _ _ _ rfl ownx 1 (Tk.cs ⟨2, s.extract p s.size, NV, (p : Int)⟩) (boxRow9 Tryd.underlying23 _ _ _ 4 rfl (Tk.cs_one _) _) (by unfold maxLen; omega) (by omega) (by omega) ?_; intro vz wz ownz gz obz; have Bz := below_kept (B6.trans (bx.mono B6.size)) gz (Nat.le_trans B6.size bx.size) (by intro q hq; exact (ownx.lt q hq).1)))
              have HTV : Hid (tks acc ++ Tk.cs ⟨2, s.extract p s.size, NV, (p : Int)⟩ = tks (acc ++ [⟨2, mk (((tl s).drop p).take (s.size - p)), NV, (p : Int)⟩])) := Lib.hid (by rw [tks_snoc, HXT.out])
              rw [HTV.out] at ownz
              go_wp2_with fail
              go_roundg (s.size - s.size)
              case measure => have := HP.out; omega
              case rel => exact ⟨s.size, _, by have := HP.out; show _ = _; omega, rfl, by rw [List.length_append, List.length_singleton]; exact ownz, Bz, HAT2.out⟩
            | false =>
              have HRV : Hid (numR (tl (s.extract p s.size)) = -1) := Lib.hid (by unfold numR; rw [hok, if_neg (by decide)])
              have HTK := Lib.hid (tk_none (HAT.out.bad HC.out (Nat.le_refl _) HNW.out (by rw [HF.out, HWL.out, ← HTX.out, hok, if_neg (by decide)])))
              rw [HRV.out] at HNM
              clear hok
              go_wp2_with (first
                | (with_reducible refine wpList_alloc_row (o := ⟨some 10, _, _, _, _, _⟩) rfl _ rfl zeroTk zero_tk ?_; intro w4 r4 z4 g4; have B4 := below_kept hB g4 hB.size (by simp); have own4 := own.kept g4 (by cases v : Value.ownBlock _ <;> simp); have ne4 := own_ge_ne own (Nat.le_refl _))
                | ((with_reducible refine wpList_at ⟨none, .store _ (.tmp 10) _, _, _, _, _⟩ ?_); refine wpList_store_all rfl _ _ _ rfl wr.heap.size rfl _ _ r4 (Tk.cs ⟨2, s.extract p s.size, 0, (p : Int)⟩) rfl (Tk.cs_one _) rfl (by kernel_rfl) ?_; intro w5 r5 g5; have z5 := g5.size; have B5 := below_kept B4 g5 B4.size (by rintro q hq; cases hq; omega); have own5 := own4.kept g5 (.inr ne4); have c52 := r5.cell (j := 2) rfl))
              refine (HNM _).out.mono ?_
              rintro _ _ ⟨rfl, rfl⟩
              go_wp2_with ((with_reducible refine wpList_at ⟨none, .store _ (.tmp 98) _, _, _, _, _⟩ ?_); refine wpList_store_elem rfl _ _ _ rfl wr.heap.size 2 rfl _ _ r5 (.int .i64 (-1)) rfl rfl (by show 2 < 4; decide) (by kernel_rfl) ?_; intro w6 r6 g6; have z6 := g6.size; have B6 := below_kept B5 g6 B5.size (by rintro q hq; cases hq; omega); have own6 := own5.kept g6 (.inr ne4); have c62 := r6.cell (j := 2) rfl)
              go_wp2_with fail
              go_ret2
              exact ⟨none, 0, 0, by rw [HTK.out.2]; rfl, by rw [HTK.out.1]; exact Reads.nil_, Nat.le_refl _, by omega, B6⟩
      · rw [hk] at HCP
        have HK := Lib.hid hk
        clear hk
        unfold bz at HCP
        have HNW : Hid (lxWh (bz c) = false) := Lib.hid (wh_of_wd (cls_wd.2 (by have h2 := HK.out; omega)))
        have HTK := Lib.hid (tk_none (HAT.out.bad HC.out (Nat.le_refl _) HNW.out (by rw [HD.out]; exact first_us (cls_us.1 HK.out))))
        go_wp2_with ((with_reducible refine wpList_at ⟨some 21, _, _, _, _, _⟩ ?_); refine wpList_valueG rfl _ (by exact exec_idxS _ _ _ _ rfl Tryd.underlying9 s rfl .i64 p rfl c HC.out _ rfl) ?_)
        refine (HCP _).out.mono ?_
        rintro _ _ ⟨rfl, rfl⟩
        go_wp2_with fail
        go_ret2
        exact ⟨none, 0, 0, by rw [HTK.out.2]; rfl, by rw [HTK.out.1]; exact Reads.nil_, Nat.le_refl _, by omega, hB⟩
      · rw [hk] at HCP
        have HK := Lib.hid hk
        clear hk
        unfold bz at HCP
        go_wp2_with ((with_reducible refine wpList_at ⟨some 21, _, _, _, _, _⟩ ?_); refine wpList_valueG rfl _ (by exact exec_idxS _ _ _ _ rfl Tryd.underlying9 s rfl .i64 p rfl c HC.out _ rfl) ?_)
        refine (HCP _).out.mono ?_
        rintro _ _ ⟨rfl, rfl⟩
        go_wp2_with fail
        go_roundg (gk - 1)
        case measure => have := HP.out; omega
        case rel => exact ⟨p + 1, acc, by have := HP.out; show _ = _; omega, by go_num, own, hB, (HAT.out.white HC.out (Nat.le_refl _) (cls_wh.1 HK.out)).up (by omega)⟩
    · obtain rfl : p = s.size := by omega
      have ql : decide ((s.size : Int) < (s.size : Int)) = false := decide_eq_false (by omega)
      have ql2 : decide (s.size < s.size) = false := decide_eq_false hlt
      have HTK := Lib.hid (tk_some hat.done)
      have hacc : acc.length ≤ 100000 := by omega
      obtain ⟨A, c, rfl, hc1, hc2, hr⟩ := own_form own
      clear hat own
      go_wp2_with fail
      go_ret2
      exact ⟨A, acc.length, c, by rw [HTK.out.2]; rfl, by rw [HTK.out.1]; exact hr, hc1, hacc, hB⟩
end Go.Proofs.YtgliealofieenaaDoor
