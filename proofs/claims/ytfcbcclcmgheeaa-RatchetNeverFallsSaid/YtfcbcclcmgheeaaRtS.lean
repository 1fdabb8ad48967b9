/-
  What the reference's Fuse, Pulse, bit, pulse, LevelOf, RaiseTo, told, Level and Raise return: contracts by walks. Condition: the log's length.
-/
import Derived.Test.YtfcbcclcmgheeaaRtR
import Derived.Test.YtfcbcclcmgheeaaRtC
set_option linter.unusedSimpArgs false
set_option linter.unusedVariables false
namespace Go.Proofs.Ytfcbcclcmgheeaa
open Go.RowKit

/-- The state of the reference's program lies in block g; its log lies below block B. -/
def CuOK (w : World) (g B : Nat) (s : RtS) : Prop :=
  ∃ (l : List DvR) (A : Option Addr) (n d i : Nat), s.l = rxs (l.drop i) ∧ i ≤ n ∧ n ≤ 100000 ∧ B ≤ g ∧ Row w g 67 (⟨A, n, d, i, s.a, decide (s.a.k ≠ 0)⟩ : Cu).cs ∧ Reads w B 2 A n (rrs l)
theorem CuOK.lt {w : World} {g B : Nat} {s : RtS} (h : CuOK w g B s) : g < w.heap.size := by obtain ⟨_, _, _, _, _, _, _, _, _, h, _⟩ := h; exact h.lt
theorem CuOK.le {w : World} {g B : Nat} {s : RtS} (h : CuOK w g B s) : B ≤ g := by obtain ⟨_, _, _, _, _, _, _, _, h, _⟩ := h; exact h
theorem CuOK.on {w w' : World} {g B : Nat} {s : RtS} (h : CuOK w g B s) (hb : Below w.heap.size w w') : CuOK w' g B s := by
  obtain ⟨l, A, n, d, i, h1, h2, h3, h4, h5, h6⟩ := h
  exact ⟨l, A, n, d, i, h1, h2, h3, h4, h5.on hb, h6.below (hb.mono (Nat.le_trans h4 (Nat.le_of_lt h5.lt)))⟩
theorem CuOK.kept {w w' : World} {g B q : Nat} {s : RtS} (h : CuOK w g B s) (hg : w.grownBy w' (some q)) (hq : q ≠ g) (hB : B ≤ q) : CuOK w' g B s := by
  obtain ⟨l, A, n, d, i, h1, h2, h3, h4, h5, h6⟩ := h
  exact ⟨l, A, n, d, i, h1, h2, h3, h4, h5.kept hg (by simp; omega), h6.kept hg (Nat.le_trans h4 (Nat.le_of_lt h5.lt)) (by rintro k hk; cases hk; exact hB)⟩
theorem CuOK.st {w : World} {g B : Nat} {s : RtS} (h : CuOK w g B s) : w.cell? ⟨g, 6, none⟩ = some (.bool (decide (s.a.k ≠ 0))) := by
  obtain ⟨l, A, n, d, i, h1, h2, h3, h4, h5, h6⟩ := h
  exact h5.cell (j := 6) rfl
theorem CuOK.ask {w : World} {g B : Nat} {s : RtS} (h : CuOK w g B s) : ∀ j u, s.a.cs[j]? = some u → w.cell? ((⟨g, 2, none⟩ : Addr).add j) = some u := by
  obtain ⟨l, A, n, d, i, h1, h2, h3, h4, h5, h6⟩ := h
  exact Row.part h5 (pre := [.slice A n d, .int .i64 (i : Int)]) (post := .bool (decide (s.a.k ≠ 0)) :: .bool false :: .slice none 0 0 :: .slice none 0 0 :: (List.replicate 16 (.int .u8 0) ++ [.slice none 0 0, .bool false])) rfl rfl
def GivesU (g B : Nat) (s : RtS) (v : Value) (w : World) (e : Ending) (w' : World) : Prop := e = .returned v ∧ CuOK w' g B s ∧ w.grownBy w' (some g)
theorem rxs_cons {l : List DvR} {i : Nat} {r : DvR} (h : l[i]? = some r) : rxs (l.drop i) = r.x :: rxs (l.drop (i + 1)) := by rw [drop_at h]; rfl
theorem cudo11_any (g B : Nat) (s : RtS) (hs : s.OK) (bank kind c : Int) (hk : kind ≠ 0) (w : World) (hp : CuOK w g B s) :
    Calls Try.prog 43 #[.pointer (some ⟨g, 0, none⟩), (acA bank kind c).v] w (fun e w' => ∃ r : DvR, e = .returned r.v ∧ r.x = (rtAcc bank s kind c).2 ∧ CuOK w' g B (rtAcc bank s kind c).1 ∧ w.grownBy w' (some g)) := by
  obtain ⟨l, A, n, d, i, hl, hin, hn, hBg, hrow, hr⟩ := hp
  obtain ⟨sl, a⟩ := s
  simp only at hl hrow
  subst hl
  have hgl := hrow.lt
  have hln := hr.len_of (by decide) DvR.cs_len
  have hr0 : Reads w w.heap.size 2 A n (rrs l) := hr.more (by omega)
  have hA : 0 < n → ∀ ad, A = some ad → ad.block ≠ g := fun h0 ad e => by
    obtain ⟨ad', e', hb, _⟩ := hr.2 h0
    rw [e'] at e
    cases e
    omega
  have hD := cdo_any g A n d i a (decide (a.k ≠ 0)) l (acA bank kind c) w hrow hr0 hA (by omega) hn
  refine hD.mono ?_
  rintro e w' ⟨rfl, hrow', hg⟩
  have hr' := hr.kept hg (by omega) (by rintro k hk; cases hk; exact hBg)
  by_cases h0 : a.k ≠ 0
  · have e1 : cuDo ⟨A, n, d, i, a, decide (a.k ≠ 0)⟩ l (acA bank kind c) = (⟨A, n, d, i, a, decide (a.k ≠ 0)⟩, ⟨0, noB⟩) := by unfold cuDo; simp only; rw [if_pos (decide_eq_true h0)]
    have e2 := rtAcc_stop (bank := bank) (kind := kind) (c := c) hs h0
    rw [e1] at hrow' ⊢
    rw [e2]
    exact ⟨_, rfl, rfl, ⟨l, A, n, d, i, rfl, hin, hn, hBg, hrow', hr'⟩, hg⟩
  · have ha : a = noAc := hs.resolve_right (fun h => h0 h.1)
    subst ha
    by_cases hend : n ≤ i
    · have e1 : cuDo ⟨A, n, d, i, noAc, decide (noAc.k ≠ 0)⟩ l (acA bank kind c) = (⟨A, n, d, i, acA bank kind c, true⟩, ⟨0, noB⟩) := by unfold cuDo; simp only; rw [if_neg (by decide), if_pos hend]
      have e0 : l.drop i = [] := List.drop_of_length_le (by omega)
      rw [e1] at hrow' ⊢
      rw [e0]
      refine ⟨_, rfl, rfl, ⟨l, A, n, d, i, by rw [e0]; rfl, hin, hn, hBg, ?_, hr'⟩, hg⟩
      have e3 : decide ((acA bank kind c).k ≠ 0) = true := decide_eq_true hk
      show Row w' g _ (⟨A, n, d, i, acA bank kind c, decide ((acA bank kind c).k ≠ 0)⟩ : Cu).cs
      rw [e3]
      exact hrow'
    · obtain ⟨r, hri⟩ : ∃ r, l[i]? = some r := ⟨_, List.getElem?_eq_getElem (by omega)⟩
      have e1 : cuDo ⟨A, n, d, i, noAc, decide (noAc.k ≠ 0)⟩ l (acA bank kind c) = (⟨A, n, d, i + 1, noAc, false⟩, r) := by unfold cuDo; simp only; rw [if_neg (by decide), if_neg hend, List.getD, hri]; rfl
      rw [e1] at hrow' ⊢
      rw [rxs_cons hri]
      exact ⟨_, rfl, rfl, ⟨l, A, n, d, i + 1, rfl, by omega, hn, hBg, hrow', hr'⟩, hg⟩
set_option maxRecDepth 100000 in
set_option maxHeartbeats 4000000 in
theorem cfuse_any (g B : Nat) (s : RtS) (hs : s.OK) (bank c : Int) (w : World) (hp : CuOK w g B s) :
    Calls Try.prog 39 #[.pointer (some ⟨g, 0, none⟩), .int .i64 bank, .int .i64 c] w (GivesU g B (rtAcc bank s 1 c).1 (.int .i64 (rtAcc bank s 1 c).2) w) := by
  have HC := Lib.hid (cudo11_any g B s hs bank 1 c (by decide) w hp)
  have hgl := hp.lt
  have hBg := hp.le
  generalize rtAcc bank s 1 c = R at *
  clear hp hs
  go_enter Try.func39, Try.ntmps39
  go_wp2_with fail
  refine HC.out.mono ?_
  rintro e w1 ⟨r, rfl, hrx, p1, g1⟩
  have hs1 := g1.size
  have HRX := Lib.hid hrx
  clear hrx
  go_wp2_with (first
    | (with_reducible refine wpList_alloc_row (o := ⟨some 7, _, _, _, _, _⟩) rfl _ rfl zeroR zero_rs ?_; intro w2 z2 s2 g2; have b2 := grown_below g2 (Nat.le_refl _) (by simp); have p2 := p1.on b2)
    | ((with_reducible refine wpList_at ⟨none, .store _ (.tmp 7) _, _, _, _, _⟩ ?_); refine wpList_store_all rfl _ _ _ rfl w1.heap.size rfl _ _ z2 (r.cs) rfl (r.cs_one) rfl (by kernel_rfl) ?_; intro w3 z3 g3; have p3 := p2.kept g3 (by omega) (by omega); have c3 := z3.cell (j := 0) rfl))
  go_ret
  exact ⟨by rw [HRX.out]; rfl, p3, grown_new (grown_trans g1 (below_grownBy b2 (some g))) g3 (by omega)⟩
set_option maxRecDepth 100000 in
set_option maxHeartbeats 4000000 in
theorem cpulse_any (g B : Nat) (s : RtS) (hs : s.OK) (bank c : Int) (w : World) (hp : CuOK w g B s) :
    Calls Try.prog 40 #[.pointer (some ⟨g, 0, none⟩), .int .i64 bank, .int .i64 c] w (fun e w' => (∃ v, e = .returned v) ∧ CuOK w' g B (rtAcc bank s 2 c).1 ∧ w.grownBy w' (some g)) := by
  have HC := Lib.hid (cudo11_any g B s hs bank 2 c (by decide) w hp)
  generalize rtAcc bank s 2 c = R at *
  clear hp hs
  go_enter Try.func40, Try.ntmps40
  go_wp2_with fail
  refine HC.out.mono ?_
  rintro e w1 ⟨r, rfl, hrx, p1, g1⟩
  clear hrx
  go_wp2_with fail
  refine bodyPost_end (results_none rfl _ _ _) rfl ⟨⟨_, rfl⟩, p1, g1⟩
set_option maxRecDepth 100000 in
set_option maxHeartbeats 4000000 in
theorem cbit_any (g B : Nat) (s : RtS) (hs : s.OK) (bank : Int) (b : Nat) (hb : b ≤ 1000) (w : World) (hp : CuOK w g B s) :
    Calls Try.prog 30 #[.pointer (some ⟨g, 0, none⟩), .int .i64 bank, .int .i64 (b : Int)] w (GivesU g B (rtAcc3 bank s 1 b).1 (.bool (rtMaj bank s b)) w) := by
  have HA : ∀ (i : Nat) (W : World), CuOK W g B (accS bank s 1 b i) → Hid (Calls Try.prog 39 #[.pointer (some ⟨g, 0, none⟩), .int .i64 bank, .int .i64 (3 * (b : Int) + (i : Int))] W (GivesU g B (accS bank s 1 b (i + 1)) (.int .i64 (accV bank s 1 b i)) W)) :=
    fun i W h => Lib.hid (cfuse_any g B _ (accS_ok hs (by decide) i) bank _ W h)
  have HM : Hid (rtMaj bank s b = decide (1 < sum3 (accV bank s 1 b 0) (accV bank s 1 b 1) (accV bank s 1 b 2) 3)) := Lib.hid (by unfold rtMaj; rw [acc3_eq, sum3_3, ← majI_sum])
  have h0 : CuOK w g B (accS bank s 1 b 0) := hp
  rw [show (rtAcc3 bank s 1 b).1 = accS bank s 1 b 3 by rw [acc3_eq]]
  generalize rtMaj bank s b = M at *
  generalize accS bank s 1 b = AS at *
  generalize accV bank s 1 b = AV at *
  have HL := fun k => Lib.hid (sum3_le (AV 0) (AV 1) (AV 2) k)
  have HS : ∀ k v, k < 3 → AV k = v → Hid (sum3 (AV 0) (AV 1) (AV 2) (k + 1) = sum3 (AV 0) (AV 1) (AV 2) k + b01 v) := fun k v hk h => Lib.hid (by
    rw [sum3, ← h]
    rcases (show k = 0 ∨ k = 1 ∨ k = 2 by omega) with rfl | rfl | rfl <;> rfl)
  have H0 : Hid (sum3 (AV 0) (AV 1) (AV 2) 0 = 0) := Lib.hid rfl
  generalize sum3 (AV 0) (AV 1) (AV 2) = sm at *
  clear hp hs
  go_enter Try.func30, Try.ntmps30
  go_wp2_with fail
  go_loopg [7, 8] 3 (fun gh s7 s8 wr => ∃ i : Nat, Hid (i + gh = 3) ∧ i ≤ 3 ∧ s7 = .int .i64 (sm i : Int) ∧ s8 = .int .i64 (i : Int) ∧ CuOK wr g B (AS i) ∧ w.grownBy wr (some g))
  case atStart => exact ⟨0, by show _ = _; omega, by omega, by rw [H0.out]; rfl, rfl, h0, World.grownBy.refl _ _⟩
  case round =>
    obtain ⟨i, HI, hi, rfl, rfl, p3, G3⟩ := hrel
    by_cases hlt : i < 3
    · have HAI := HA i wr p3
      obtain ⟨v, hv⟩ : ∃ v, v = AV i := ⟨_, rfl⟩
      have HSK := HS i v hlt hv.symm
      rw [← hv] at HAI
      have hle := (HL i).out
      obtain ⟨Z, hZ⟩ : ∃ Z, Z = sm i := ⟨_, rfl⟩
      rw [← hZ] at HSK hle ⊢
      clear hv hZ HS HL HM
      go_wp2_with fail
      refine HAI.out.mono ?_
      rintro e w4 ⟨rfl, p4, g4⟩
      have G4 := grown_trans G3 g4
      cases hz : (v != 0) with
      | true =>
        have h1 := Lib.hid (b01_t hz)
        go_wp2_with fail
        go_roundg (gk - 1)
        case measure => have := HI.out; omega
        case rel => exact ⟨i + 1, by have := HI.out; show _ = _; omega, by omega, by rw [HSK.out, h1.out]; go_num, by go_num, p4, G4⟩
      | false =>
        have h1 := Lib.hid (b01_f hz)
        go_wp2_with fail
        go_roundg (gk - 1)
        case measure => have := HI.out; omega
        case rel => exact ⟨i + 1, by have := HI.out; show _ = _; omega, by omega, by rw [HSK.out, h1.out]; rfl, by go_num, p4, G4⟩
    · obtain rfl : i = 3 := by omega
      have hle := (HL 3).out
      have HE : Hid (M = decide ((1 : Int) < (sm 3 : Int))) := Lib.hid (by rw [HM.out]; exact decide_eq_decide.2 (by omega))
      clear HM HS HL
      go_wp2_with fail
      go_ret
      exact ⟨by rw [HE.out]; rfl, p3, G3⟩
set_option maxRecDepth 100000 in
set_option maxHeartbeats 4000000 in
theorem cpul_any (g B : Nat) (s : RtS) (hs : s.OK) (bank : Int) (b : Nat) (hb : b ≤ 1000) (w : World) (hp : CuOK w g B s) :
    Calls Try.prog 31 #[.pointer (some ⟨g, 0, none⟩), .int .i64 bank, .int .i64 (b : Int)] w (fun e w' => (∃ v, e = .returned v) ∧ CuOK w' g B (rtAcc3 bank s 2 b).1 ∧ w.grownBy w' (some g)) := by
  have HA : ∀ (i : Nat) (W : World), CuOK W g B (accS bank s 2 b i) → Hid (Calls Try.prog 40 #[.pointer (some ⟨g, 0, none⟩), .int .i64 bank, .int .i64 (3 * (b : Int) + (i : Int))] W (fun e w' => (∃ v, e = .returned v) ∧ CuOK w' g B (accS bank s 2 b (i + 1)) ∧ W.grownBy w' (some g))) :=
    fun i W h => Lib.hid (cpulse_any g B _ (accS_ok hs (by decide) i) bank _ W h)
  have h0 : CuOK w g B (accS bank s 2 b 0) := hp
  rw [show (rtAcc3 bank s 2 b).1 = accS bank s 2 b 3 by rw [acc3_eq]]
  generalize accS bank s 2 b = AS at *
  clear hp hs
  go_enter Try.func31, Try.ntmps31
  go_wp2_with fail
  go_loopg [6] 3 (fun gh s6 wr => ∃ i : Nat, Hid (i + gh = 3) ∧ i ≤ 3 ∧ s6 = .int .i64 (i : Int) ∧ CuOK wr g B (AS i) ∧ w.grownBy wr (some g))
  case atStart => exact ⟨0, by show _ = _; omega, by omega, rfl, h0, World.grownBy.refl _ _⟩
  case round =>
    obtain ⟨i, HI, hi, rfl, p3, G3⟩ := hrel
    by_cases hlt : i < 3
    · have HAI := HA i wr p3
      go_wp2_with fail
      refine HAI.out.mono ?_
      rintro e w4 ⟨⟨v, rfl⟩, p4, g4⟩
      have G4 := grown_trans G3 g4
      go_wp2_with fail
      go_roundg (gk - 1)
      case measure => have := HI.out; omega
      case rel => exact ⟨i + 1, by have := HI.out; show _ = _; omega, by omega, by go_num, p4, G4⟩
    · obtain rfl : i = 3 := by omega
      go_wp2_with fail
      refine bodyPost_end (results_none rfl _ _ _) rfl ⟨⟨_, rfl⟩, p3, G3⟩
end Go.Proofs.Ytfcbcclcmgheeaa
