/-
  LexConcat returns true: by walks. No condition.
-/
import Derived.Test.YtgliealofieenaaDoorSan12
import Derived.Test.YtgliealofieenaaDoorLxJ
import Derived.Test.YtgliealofieenaaDoorLxH
set_option linter.unusedSimpArgs false
set_option linter.unusedVariables false
namespace Go.Proofs.YtgliealofieenaaDoor
open Go.RowKit

theorem lx_at : ∀ (l : List UInt8) (s p : Nat) (ts : List Tk), lx s p l = some ts → ∀ t ∈ ts, (p : Int) ≤ t.a ∧ t.a ≤ (p + l.length : Nat)
  | [], s, p, ts, h, t, ht => by rw [lx_nil] at h; cases h; cases ht
  | c :: r, s + 1, p, ts, h, t, ht => by
    have := lx_at r s (p + 1) ts h t ht
    rw [List.length_cons]; omega
  | c :: r, 0, p, ts, h, t, ht => by
    by_cases hw : lxWh (bz c) = true
    · rw [lx_wh hw] at h
      have := lx_at r 0 (p + 1) ts h t ht
      rw [List.length_cons]; omega
    · cases hf : lxFirst (c :: r) with
      | none => rw [lx_bad (not_of hw) hf] at h; cases h
      | some x =>
        obtain ⟨k, m, n⟩ := x
        rw [lx_good hf] at h
        cases hr : lx (m - 1) (p + 1) r with
        | none => rw [hr] at h; cases h
        | some us =>
          rw [hr] at h
          cases h
          rcases List.mem_cons.1 ht with rfl | ht
          · simp only; omega
          · have := lx_at r (m - 1) (p + 1) us hr t ht
            rw [List.length_cons]; omega
theorem all_join {x : UInt8} (hx : lxWh (bz x) = true) (a b : ByteArray) : lxAll (a ++ mk [x] ++ b) = (lxAll a).bind fun ts => (lxAll b).map fun us => ts ++ us.map (shiftT (a.size + 1)) := by
  unfold lxAll
  rw [tl_app, tl_app, tl_mk, List.append_assoc, List.singleton_append, lx_concat hx _ _ _ _ (Nat.zero_le _)]
  congr 1
  funext ts
  rw [tl_len, show 0 + a.size + 1 = 0 + (a.size + 1) by omega, lx_shift]
  cases lx 0 0 (tl b) <;> rfl
def betw : List ByteArray := [mk [32], mk [9], mk [10]]
theorem betw_at {j : Nat} (h : j < 3) : ∃ x : UInt8, betw[j]? = some (mk [x]) ∧ lxWh (bz x) = true := by
  match j, h with
  | 0, _ => exact ⟨32, rfl, by decide⟩
  | 1, _ => exact ⟨9, rfl, by decide⟩
  | 2, _ => exact ⟨10, rfl, by decide⟩
set_option maxRecDepth 100000 in
set_option maxHeartbeats 16000000 in
theorem w125_any (a b : ByteArray) (z : Nat) (w : World) (ha : a.size ≤ 9223372036854775807) (hb : b.size ≤ 9223372036854775807) (hz : z < 256) (hK : Sgs w) :
    Calls Tryd.prog 7 #[.string a, .string b, .int .u8 (z : Int)] w (TellsB true w) := by
  obtain ⟨i0, hi0, hz0, hz1, hz2⟩ := info_parts info_tk
  have HSA := Lib.hid (san12_any w hK)
  have HK := Lib.hid hK
  clear hK
  unfold TellsB at *
  by_cases hba : 600 < a.size
  · have q : decide ((600 : Int) < (a.size : Int)) = true := decide_eq_true (by omega)
    go_enter Tryd.func7, Tryd.ntmps7
    go_wp2_with fail
    refine HSA.out.mono ?_
    rintro e w1 ⟨rfl, b1⟩
    go_wp2_with fail
    go_ret
    exact ⟨rfl, b1⟩
  · have q : decide ((600 : Int) < (a.size : Int)) = false := decide_eq_false (by omega)
    by_cases hbb : 600 < b.size
    · have q2 : decide ((600 : Int) < (b.size : Int)) = true := decide_eq_true (by omega)
      go_enter Tryd.func7, Tryd.ntmps7
      go_wp2_with fail
      refine HSA.out.mono ?_
      rintro e w1 ⟨rfl, b1⟩
      go_wp2_with fail
      go_ret
      exact ⟨rfl, b1⟩
    · have q2 : decide ((600 : Int) < (b.size : Int)) = false := decide_eq_false (by omega)
      have hJ : z % 3 < 3 := Nat.mod_lt _ (by decide)
      have hjc : (z : Int) % 3 = ((z % 3 : Nat) : Int) := by omega
      have HJE := Lib.hid hjc
      obtain ⟨x, hx, hwx⟩ := betw_at hJ
      have HJ : Hid ((betw.map Value.string)[z % 3]? = some (.string (mk [x]))) := Lib.hid (by rw [List.getElem?_map, hx]; rfl)
      have hcat := all_join hwx a b
      have hms : (mk [x]).size = 1 := rfl
      have hs3 : (a ++ mk [x] ++ b : ByteArray).size = a.size + 1 + b.size := by rw [← tl_len, tl_app, tl_app, List.length_append, List.length_append, tl_len, tl_len, tl_len, hms]
      have hs4 : (a ++ mk [x] : ByteArray).size = a.size + 1 := by rw [← tl_len, tl_app, List.length_append, tl_len, tl_len, hms]
      have HT1 := fun W hW => Lib.hid (tokens_any a W (by omega) hW)
      have HT2 := fun W hW => Lib.hid (tokens_any b W (by omega) hW)
      have HT3 := fun W hW => Lib.hid (tokens_any (a ++ mk [x] ++ b) W (by omega) hW)
      have hsp : (mk [x]).size ≤ 1 := by omega
      have HS4 := Lib.hid hs4
      have hs4' : (a ++ mk [x] : ByteArray).size ≤ 601 := by omega
      generalize z % 3 = J at *
      generalize hsep : mk [x] = S at *
      clear hx hwx hms hs3 hs4 hsep hjc
      cases hla : lxAll a with
      | none =>
        obtain ⟨h1, h2⟩ := tk_none hla
        rw [hla] at hcat
        obtain ⟨h5, h6⟩ := tk_none hcat
        rw [h1, h2] at HT1
        rw [h5, h6] at HT3
        clear hla h1 h2 hcat h5 h6
        generalize tkL b = T2 at *
        generalize tkE b = E2 at *
        go_enter Tryd.func7, Tryd.ntmps7
        go_wp2_with fail
        refine HSA.out.mono ?_
        rintro e w1 ⟨rfl, b1⟩
        go_wp2_with fail
        obtain ⟨w2, hw2⟩ : ∃ w2, w2 = w1.alloc (Obj.cells #[.string ⟨#[32]⟩, .string ⟨#[9]⟩, .string ⟨#[10]⟩] 9) := ⟨_, rfl⟩
        have rb : Row w2 w1.heap.size 9 (betw.map Value.string) := by rw [hw2]; exact row_alloc w1 9 (betw.map Value.string)
        have b2 : Below w1.heap.size w1 w2 := by rw [hw2]; exact (Below.refl _ _).alloc (Nat.le_refl _) _
        have B2 := b1.trans (b2.mono b1.size)
        rw [← hw2]
        clear hw2
        refine (HT1 _ (HK.out.on B2)).out.mono ?_
        rintro e w3 ⟨A, n, c, rfl, r3, hnc, hn, b3⟩
        have B3 := B2.trans (b3.mono B2.size)
        have rb3 := rb.on b3
        go_wp2_with fail
        refine (HT2 _ (HK.out.on B3)).out.mono ?_
        rintro e w4 ⟨A4, m, d, rfl, r4, hmd, hm, b4⟩
        have B4 := B3.trans (b4.mono B3.size)
        have rb4 := rb3.on b4
        have cb := rb4.cell HJ.out
        have hj2 := HJE.out
        go_wp2_with ((with_reducible refine wpList_at ⟨some 45, _, _, _, _, _⟩ ?_); refine wpList_valueG rfl _ (by exact exec_load1 _ 9 _ rfl ⟨w1.heap.size, J, none⟩ rfl _ cb _ Tryd.underlying9 rfl) ?_)
        refine (HT3 _ (HK.out.on B4)).out.mono ?_
        clear hj2
        rintro e w5 ⟨A5, l, f, rfl, r5, hlf, hl5, b5⟩
        have B5 := B4.trans (b5.mono B4.size)
        have r35 := (r3.on b4).on b5
        have r45 := r4.on b5
        have hl0 : 0 = l := r5.tk_len
        have HL0 := Lib.hid hl0.symm
        have ql : ((l : Int) == 0) = true := by rw [HL0.out]; rfl
        have ql2 : (l == 0) = true := by rw [HL0.out]; rfl
        clear hl0
        go_wp2_with fail
        go_ret
        exact ⟨rfl, B5⟩
      | some ts =>
        obtain ⟨h1, h2⟩ := tk_some hla
        rw [hla] at hcat
        rw [h1, h2] at HT1
        have hsa := lx_small hla
        rw [tl_len] at hsa
        cases hlb : lxAll b with
        | none =>
          obtain ⟨h3, h4⟩ := tk_none hlb
          rw [hlb] at hcat
          obtain ⟨h5, h6⟩ := tk_none hcat
          rw [h3, h4] at HT2
          rw [h5, h6] at HT3
          clear hla hlb h1 h2 h3 h4 hcat h5 h6 hsa
          go_enter Tryd.func7, Tryd.ntmps7
          go_wp2_with fail
          refine HSA.out.mono ?_
          rintro e w1 ⟨rfl, b1⟩
          go_wp2_with fail
          obtain ⟨w2, hw2⟩ : ∃ w2, w2 = w1.alloc (Obj.cells #[.string ⟨#[32]⟩, .string ⟨#[9]⟩, .string ⟨#[10]⟩] 9) := ⟨_, rfl⟩
          have rb : Row w2 w1.heap.size 9 (betw.map Value.string) := by rw [hw2]; exact row_alloc w1 9 (betw.map Value.string)
          have b2 : Below w1.heap.size w1 w2 := by rw [hw2]; exact (Below.refl _ _).alloc (Nat.le_refl _) _
          have B2 := b1.trans (b2.mono b1.size)
          rw [← hw2]
          clear hw2
          refine (HT1 _ (HK.out.on B2)).out.mono ?_
          rintro e w3 ⟨A, n, c, rfl, r3, hnc, hn, b3⟩
          have B3 := B2.trans (b3.mono B2.size)
          have rb3 := rb.on b3
          go_wp2_with fail
          refine (HT2 _ (HK.out.on B3)).out.mono ?_
          rintro e w4 ⟨A4, m, d, rfl, r4, hmd, hm, b4⟩
          have B4 := B3.trans (b4.mono B3.size)
          have rb4 := rb3.on b4
          have cb := rb4.cell HJ.out
          have hj2 := HJE.out
          go_wp2_with ((with_reducible refine wpList_at ⟨some 45, _, _, _, _, _⟩ ?_); refine wpList_valueG rfl _ (by exact exec_load1 _ 9 _ rfl ⟨w1.heap.size, J, none⟩ rfl _ cb _ Tryd.underlying9 rfl) ?_)
          refine (HT3 _ (HK.out.on B4)).out.mono ?_
          clear hj2
          rintro e w5 ⟨A5, l, f, rfl, r5, hlf, hl5, b5⟩
          have B5 := B4.trans (b5.mono B4.size)
          have r35 := (r3.on b4).on b5
          have r45 := r4.on b5
          have hl0 : 0 = l := r5.tk_len
          have HL0 := Lib.hid hl0.symm
          have ql : ((l : Int) == 0) = true := by rw [HL0.out]; rfl
          have ql2 : (l == 0) = true := by rw [HL0.out]; rfl
          clear hl0
          go_wp2_with fail
          go_ret
          exact ⟨rfl, B5⟩
        | some us =>
          obtain ⟨h3, h4⟩ := tk_some hlb
          rw [hlb] at hcat
          obtain ⟨h5, h6⟩ := tk_some (ts := ts ++ us.map (shiftT (a.size + 1))) hcat
          rw [h3, h4] at HT2
          rw [h5, h6] at HT3
          have hsb := lx_small hlb
          rw [tl_len] at hsb
          have HAT := Lib.hid (lx_at _ _ _ _ hlb)
          have hts : ts.length ≤ 600 := by omega
          have hus : us.length ≤ 600 := by omega
          clear hla hlb h1 h2 h3 h4 hcat h5 h6 hsa hsb
          go_enter Tryd.func7, Tryd.ntmps7
          go_wp2_with fail
          refine HSA.out.mono ?_
          rintro e w1 ⟨rfl, b1⟩
          go_wp2_with fail
          obtain ⟨w2, hw2⟩ : ∃ w2, w2 = w1.alloc (Obj.cells #[.string ⟨#[32]⟩, .string ⟨#[9]⟩, .string ⟨#[10]⟩] 9) := ⟨_, rfl⟩
          have rb : Row w2 w1.heap.size 9 (betw.map Value.string) := by rw [hw2]; exact row_alloc w1 9 (betw.map Value.string)
          have b2 : Below w1.heap.size w1 w2 := by rw [hw2]; exact (Below.refl _ _).alloc (Nat.le_refl _) _
          have B2 := b1.trans (b2.mono b1.size)
          rw [← hw2]
          clear hw2
          refine (HT1 _ (HK.out.on B2)).out.mono ?_
          rintro e w3 ⟨A, n, c, rfl, r3, hnc, hn, b3⟩
          have B3 := B2.trans (b3.mono B2.size)
          have rb3 := rb.on b3
          go_wp2_with fail
          refine (HT2 _ (HK.out.on B3)).out.mono ?_
          rintro e w4 ⟨A4, m, d, rfl, r4, hmd, hm, b4⟩
          have B4 := B3.trans (b4.mono B3.size)
          have rb4 := rb3.on b4
          have cb := rb4.cell HJ.out
          have hj2 := HJE.out
          go_wp2_with ((with_reducible refine wpList_at ⟨some 45, _, _, _, _, _⟩ ?_); refine wpList_valueG rfl _ (by exact exec_load1 _ 9 _ rfl ⟨w1.heap.size, J, none⟩ rfl _ cb _ Tryd.underlying9 rfl) ?_)
          refine (HT3 _ (HK.out.on B4)).out.mono ?_
          clear hj2
          rintro e w5 ⟨A5, l, f, rfl, r5, hlf, hl5, b5⟩
          have B5 := B4.trans (b5.mono B4.size)
          have r35 := (r3.on b4).on b5
          have r45 := r4.on b5
          have HN := Lib.hid r35.tk_len
          have HM := Lib.hid r45.tk_len
          have hn6 : n ≤ 600 := by rw [← HN.out]; exact hts
          have hm6 : m ≤ 600 := by rw [← HM.out]; exact hus
          go_wp2_with (at_builtin; refine wpList_append_src _ rfl (.tmp 68) (.tmp 69) _ _ rfl w5.heap.size 30 i0 _ 4 40 Tryd.underlying23 hi0 hz0 hz1 hz2 rfl _ _ _ rfl (own_empty w5 30 4 w5.heap.size (Nat.le_refl _)) n _ (Src.ofReads _ Tryd.underlying23 (r35.alloc (Nat.le_refl _) _) (tks_one ts)) (by unfold maxLen; omega) (by omega) (by simp) ?_; intro v6 w6 own6 b6)
          have b56 : Below w5.heap.size w5 w6 := ((Below.refl w5.heap.size w5).alloc (Nat.le_refl _) (.cells #[] 30)).trans b6
          have B6 := B5.trans (b56.mono B5.size)
          have r46 := r45.on b56
          have r56 := r5.on b56
          rw [Nat.zero_add, List.nil_append] at own6
          go_loopg [15, 16] m (fun g s15 s16 wr => ∃ i : Nat, Hid (i + g = m) ∧ i ≤ m ∧ s16 = .int .i64 (i : Int) ∧ wr.ownsRow w5.heap.size 30 4 s15 (n + i) (tks (ts ++ (us.take i).map (shiftT (a.size + 1)))) ∧ Below w5.heap.size w5 wr)
          case atStart => exact ⟨0, by show _ = _; omega, by omega, rfl, by rw [Nat.add_zero, List.take_zero, List.map_nil, List.append_nil]; exact own6, b56⟩
          case round =>
            obtain ⟨i, HI, hi, rfl, own, hB⟩ := hrel
            have hBs := hB.size
            by_cases hlt : i < m
            · obtain ⟨ad, t, rfl, hlta, ht, hc⟩ := (r45.below hB).tk_at hlt
              have HC := Lib.hid hc
              have hat := HAT.out t (List.mem_of_getElem? ht)
              have hta0 : 0 ≤ t.a := hat.1
              have hta1 : t.a ≤ 600 := by have h1 := hat.2; rw [tl_len] at h1; omega
              have HTV : Hid (tks (ts ++ (us.take i).map (shiftT (a.size + 1))) ++ Tk.cs ⟨t.k, t.t, t.n, t.a + (a.size : Int) + 1⟩ = tks (ts ++ (us.take (i + 1)).map (shiftT (a.size + 1)))) := Lib.hid (by
                rw [← tks_snoc, List.take_add_one, ht, Option.toList_some, List.map_append, List.append_assoc]
                unfold shiftT
                rw [List.map_cons, List.map_nil, show t.a + (a.size : Int) + 1 = t.a + ((a.size + 1 : Nat) : Int) by omega])
              have ql : decide ((i : Int) < (m : Int)) = true := decide_eq_true (by omega)
              have ql2 : decide (i < m) = true := decide_eq_true hlt
              have ne0 := own_ge_ne own (Nat.le_refl _)
              clear ht hc hat
              go_wp2_with (first
                | ((with_reducible refine wpList_at ⟨some 80, _, _, _, _, _⟩ ?_); refine wpList_valueG rfl _ (by exact exec_loadTk _ _ rfl (ad.add (i * 4)) rfl t HC.out) ?_)
                | (with_reducible refine wpList_alloc_row (o := ⟨some 17, _, _, _, _, _⟩) rfl _ rfl zeroTk zero_tk ?_; intro w7 r7 z7 g7; have B7 := below_kept hB g7 hBs (by simp); have own7 := own.kept g7 (by cases v : Value.ownBlock _ <;> simp))
                | ((with_reducible refine wpList_at ⟨none, .store _ (.tmp 17) _, _, _, _, _⟩ ?_); refine wpList_store_all rfl _ _ _ rfl wr.heap.size rfl _ _ r7 t.cs rfl (t.cs_one) rfl (by kernel_rfl) ?_; intro w8 r8 g8; have z8 := g8.size; have B8 := below_kept B7 g8 B7.size (by rintro q hq; cases hq; omega); have own8 := own7.kept g8 (.inr ne0); have c83 := r8.cell (j := 3) rfl)
                | ((with_reducible refine wpList_at ⟨none, .store _ (.tmp 87) _, _, _, _, _⟩ ?_); refine wpList_store_elem rfl _ _ _ rfl wr.heap.size 3 rfl _ _ r8 (.int .i64 (t.a + (a.size : Int) + 1)) rfl rfl (by show 3 < 4; decide) (by kernel_rfl) ?_; intro w9 r9 g9; have z9 := g9.size; have B9 := below_kept B8 g9 B8.size (by rintro q hq; cases hq; omega); have own9 := own8.kept g9 (.inr ne0))
                | ((with_reducible refine wpList_at ⟨some 89, _, _, _, _, _⟩ ?_); refine wpList_valueG rfl _ (by exact exec_loadTk _ _ rfl ⟨wr.heap.size, 0, none⟩ rfl ⟨t.k, t.t, t.n, t.a + (a.size : Int) + 1⟩ r9.cells) ?_)
                | ((with_reducible refine wpList_at ⟨some 90, _, _, _, _, _⟩ ?_); refine wpList_valueW (o := ⟨some 90, _, _, _, _, _⟩) rfl _ (by exact exec_slice1 _ 23 30 _ rfl Tryd.underlying23 i0 _ hi0 hz0 (Tk.cs ⟨t.k, t.t, t.n, t.a + (a.size : Int) + 1⟩) (by rw [hz1]; rfl) (by show 0 < 4; decide) (by show 4 ≤ 1000; decide) rfl) ?_)
                | (at_builtin; have bx : Below w9.heap.size w9 (w9.alloc (.cells (Tk.cs ⟨t.k, t.t, t.n, t.a + (a.size : Int) + 1⟩).toArray 30)) := (Below.refl _ _).alloc (Nat.le_refl _) _; have ownx := own_below own9 bx; have zx := bx.size
                   refine wpList_append_at9 rfl (.tmp 88) (.tmp 90) _ _ rfl w5.heap.size 30 i0 _ 4 40 Tryd.underlying23 hi0 hz0 hz1 hz2 rfl _ _ _ rfl ownx 1 (Tk.cs ⟨t.k, t.t, t.n, t.a + (a.size : Int) + 1⟩) (boxRow9 Tryd.underlying23 _ _ _ 4 rfl (Tk.cs_one _) _) (by unfold maxLen; omega) (by omega) (by omega) ?_
                   intro vz wz ownz gz obz; have Bz := below_kept (B9.trans (bx.mono B9.size)) gz (Nat.le_trans B9.size bx.size) (by intro q hq; exact (ownx.lt q hq).1)))
              rw [HTV.out] at ownz
              go_wp2_with fail
              go_roundg (gk - 1)
              case measure => have := HI.out; omega
              case rel => exact ⟨i + 1, by have := HI.out; show _ = _; omega, by omega, by go_num, by rw [← Nat.add_assoc]; exact ownz, Bz⟩
            · have hin : i = m := by omega
              have ql : decide ((i : Int) < (m : Int)) = false := decide_eq_false (by omega)
              have ql2 : decide (i < m) = false := decide_eq_false hlt
              rw [hin, List.take_of_length_le (by rw [HM.out]; exact Nat.le_refl _)] at own
              clear hin
              obtain ⟨Aw, cw, rfl, hcw1, hcw2, hrw⟩ := own_form own
              have HSM := Lib.hid (rsame_any A5 Aw l f (n + m) cw (ts ++ us.map (shiftT (a.size + 1))) wr (r5.on hB) hrw (by omega))
              clear own
              go_wp2_with fail
              refine HSM.out.mono ?_
              rintro e w10 ⟨rfl, b10⟩
              go_wp2_with fail
              go_ret
              exact ⟨rfl, (B5.trans (hB.mono B5.size)).trans (b10.mono (B5.trans (hB.mono B5.size)).size)⟩
end Go.Proofs.YtgliealofieenaaDoor
