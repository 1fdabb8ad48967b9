/-
  What ratchet's walk returns: a contract by a walk. Condition: the bits' range.
-/
import Derived.Test.YtfcbcclcmgheeaaRtC
import Derived.WalkMore
set_option linter.unusedSimpArgs false
set_option linter.unusedVariables false
namespace Go.Proofs.Ytfcbcclcmgheeaa
open Go.RowKit

def kvs (ks : List Int) : List Value := ks.map (.int .i64)
theorem kvs_get {ks : List Int} {j : Nat} {k : Int} (h : ks[j]? = some k) : (kvs ks)[j]? = some (.int .i64 k) := by unfold kvs; rw [List.getElem?_map, h]; rfl
theorem kvs_len (ks : List Int) : (kvs ks).length = ks.length := List.length_map _
theorem rtKinds_cons (bank : Int) (b : Nat) (k : Int) (ks : List Int) (s : RtS) : rtKinds bank b (k :: ks) s = if k = 1 ∧ majI (rtAcc3 bank s k b).2.1 (rtAcc3 bank s k b).2.2.1 (rtAcc3 bank s k b).2.2.2 = false then ((rtAcc3 bank s k b).1, true) else rtKinds bank b ks (rtAcc3 bank s k b).1 := rfl
theorem rtWalk_succ (bank : Int) (ks : List Int) (b r : Nat) (s : RtS) : rtWalk bank ks b (r + 1) s = if (rtKinds bank b ks s).2 then ((rtKinds bank b ks s).1, b) else rtWalk bank ks (b + 1) r (rtKinds bank b ks s).1 := rfl
theorem drop_at11 {α : Type} {l : List α} {i : Nat} {a : α} (h : l[i]? = some a) : l.drop i = a :: l.drop (i + 1) := drop_at h
set_option maxRecDepth 100000 in
set_option maxHeartbeats 4000000 in
theorem rwalk_any (g B : Nat) (bank : Int) (s : RtS) (hs : s.OK) (first limit : Nat) (hl : limit ≤ 1000) (hf : first ≤ 1000) (ks : List Int) (hks : ∀ k ∈ ks, k = 1 ∨ k = 2) (hkl : ks.length ≤ 1000) (Kb : Nat) (Kt : TypeId) (Kc : Nat) (hKg : Kb ≠ g) (w : World) (hK : Row w Kb Kt (kvs ks)) (hp : RpOK w g B bank s) :
    Calls Try.prog 24 #[.pointer (some ⟨g, 0, none⟩), .int .i64 (first : Int), .int .i64 (limit : Int), .slice (some ⟨Kb, 0, none⟩) ks.length Kc] w (GivesP g B bank (rtWalk bank ks first (limit - first) s).1 (.int .i64 ((rtWalk bank ks first (limit - first) s).2 : Nat)) w) := by
  have HC : ∀ (b : Nat) (st : RtS) (k : Int) (W : World), st.OK → (k = 1 ∨ k = 2) → b ≤ 1000 → RpOK W g B bank st → Hid (Calls Try.prog 32 #[.pointer (some ⟨g, 0, none⟩), .int .i64 k, .int .i64 (b : Int)] W (GivesP g B bank (rtAcc3 bank st k b).1 (.agg (c3 (rtAcc3 bank st k b).2.1 (rtAcc3 bank st k b).2.2.1 (rtAcc3 bank st k b).2.2.2).toArray) W)) :=
    fun b st k W h1 h2 h3 h4 => Lib.hid (rcells_any g B bank st h1 k (by rcases h2 with rfl | rfl <;> decide) b h3 W h4)
  have HKS := Lib.hid hks
  have HOK : ∀ (b : Nat) (st : RtS) (k : Int), st.OK → (k = 1 ∨ k = 2) → (rtAcc3 bank st k b).1.OK := fun b st k h1 h2 => rtAcc3_ok h1 (by rcases h2 with rfl | rfl <;> decide)
  have HR : Hid (∀ r b st, rtWalk bank ks b (r + 1) st = if (rtKinds bank b ks st).2 then ((rtKinds bank b ks st).1, b) else rtWalk bank ks (b + 1) r (rtKinds bank b ks st).1) := Lib.hid fun r b st => rfl
  have HZ : Hid (∀ b st, rtWalk bank ks b 0 st = (st, b)) := Lib.hid fun b st => rfl
  have HKC : Hid (∀ b k kk st, rtKinds bank b (k :: kk) st = if k = 1 ∧ majI (rtAcc3 bank st k b).2.1 (rtAcc3 bank st k b).2.2.1 (rtAcc3 bank st k b).2.2.2 = false then ((rtAcc3 bank st k b).1, true) else rtKinds bank b kk (rtAcc3 bank st k b).1) := Lib.hid fun b k kk st => rfl
  have HKN : Hid (∀ b st, rtKinds bank b [] st = (st, false)) := Lib.hid fun b st => rfl
  have hKl := hK.lt
  obtain ⟨R0, hR0⟩ : ∃ R0, R0 = limit - first := ⟨_, rfl⟩
  rw [← hR0]
  have HR0 := Lib.hid hR0
  obtain ⟨nk, hnk⟩ : ∃ nk, nk = ks.length := ⟨_, rfl⟩
  rw [← hnk] at hkl ⊢
  have HNK := Lib.hid hnk
  obtain ⟨FW, hFW⟩ : ∃ FW, FW = rtWalk bank ks first R0 s := ⟨_, rfl⟩
  rw [← hFW]
  have HFW := Lib.hid hFW
  clear hks hR0 hnk hFW
  go_enter Try.func24, Try.ntmps24
  go_wp2_with fail
  try go_step3
  go_wp2_with fail
  try go_step3
  go_wp2_with fail
  go_loopg [9] R0 (fun gh s9 wr => ∃ (b : Nat) (st : RtS), s9 = .int .i64 (b : Int) ∧ Hid (FW = rtWalk bank ks b gh st) ∧ Hid (gh = limit - b) ∧ b ≤ 1000 ∧ st.OK ∧ RpOK wr g B bank st ∧ Row wr Kb Kt (kvs ks) ∧ w.grownBy wr (some g))
  case atStart => exact ⟨first, s, rfl, HFW, HR0, hf, hs, hp, hK, World.grownBy.refl _ _⟩
  case round =>
    obtain ⟨b, st, rfl, HW, HG, hb, hok, p1, k1, G1⟩ := hrel
    obtain ⟨g0, hg0⟩ : ∃ g0 : Nat, g0 = gk := ⟨_, rfl⟩
    have HG0 := Lib.hid hg0
    clear hg0
    by_cases hlt : b < limit
    · obtain ⟨FK, hFK⟩ : ∃ FK, FK = rtKinds bank b ks st := ⟨_, rfl⟩
      have HFK := Lib.hid hFK
      have HW2 : Hid (FW = if FK.2 then (FK.1, b) else rtWalk bank ks (b + 1) (g0 - 1) FK.1) := Lib.hid (by
        have h1 := HG.out
        have h2 := HG0.out
        rw [HW.out, show gk = (g0 - 1) + 1 by omega, HR.out, ← hFK])
      clear hFK
      go_wp2_with fail
      try go_step3
      go_wp2_with fail
      go_loopg [21] nk (fun gi s21 wi => ∃ (j : Nat) (st2 : RtS), s21 = .int .i64 (j : Int) ∧ Hid (FK = rtKinds bank b (ks.drop j) st2) ∧ Hid (j + gi = nk) ∧ j ≤ nk ∧ st2.OK ∧ RpOK wi g B bank st2 ∧ Row wi Kb Kt (kvs ks) ∧ w.grownBy wi (some g))
      case atStart => exact ⟨0, st, rfl, HFK, by show _ = _; omega, by omega, hok, p1, k1, G1⟩
      case round =>
        obtain ⟨j, st2, rfl, HD, HJ, hj, hok2, p2, k2, G2⟩ := hrel
        by_cases hjl : j < nk
        · obtain ⟨k, hk⟩ : ∃ k, ks[j]? = some k := ⟨_, List.getElem?_eq_getElem (by rw [← HNK.out]; exact hjl)⟩
          have hk12 := HKS.out k (List.mem_of_getElem? hk)
          have hkc := k2.cell (kvs_get hk)
          have HDK : Hid (FK = if k = 1 ∧ majI (rtAcc3 bank st2 k b).2.1 (rtAcc3 bank st2 k b).2.2.1 (rtAcc3 bank st2 k b).2.2.2 = false then ((rtAcc3 bank st2 k b).1, true) else rtKinds bank b (ks.drop (j + 1)) (rtAcc3 bank st2 k b).1) := Lib.hid (by rw [HD.out, drop_at11 hk, HKC.out])
          have HCC := HC b st2 k wr hok2 hk12 hb p2
          have hok3 := HOK b st2 k hok2 hk12
          have hBg := p2.le
          obtain ⟨x, hx⟩ : ∃ x, x = (rtAcc3 bank st2 k b).2.1 := ⟨_, rfl⟩
          obtain ⟨y, hy⟩ : ∃ y, y = (rtAcc3 bank st2 k b).2.2.1 := ⟨_, rfl⟩
          obtain ⟨z, hz⟩ : ∃ z, z = (rtAcc3 bank st2 k b).2.2.2 := ⟨_, rfl⟩
          obtain ⟨st3, hst3⟩ : ∃ st3, st3 = (rtAcc3 bank st2 k b).1 := ⟨_, rfl⟩
          rw [← hx, ← hy, ← hz, ← hst3] at HDK HCC
          rw [← hst3] at hok3
          clear hx hy hz hst3 hk
          have hl2 := k2.lt
          have hl1 := p2.lt
          have hs2 := G2.size
          rcases hk12 with rfl | rfl
          · cases hm : majI x y z with
            | false =>
              have HE := Lib.hid (show FK = (st3, true) by rw [HDK.out, if_pos ⟨rfl, hm⟩])
              clear HDK
              go_wp2_with fail
              refine HCC.out.mono ?_
              rintro e w4 ⟨rfl, p4, g4⟩
              have hs4 := g4.size
              have k4 := k2.kept g4 (by simp; omega)
              have G4 := grown_trans G2 g4
              go_wp2_with (first
                | (with_reducible refine wpList_alloc_row (o := ⟨some 12, _, _, _, _, _⟩) rfl _ rfl zero3i zero_3i ?_; intro w5 z5 s5 g5; have b5 := grown_below g5 (Nat.le_refl _) (by simp); have p5 := p4.on b5; have k5 := k4.on b5)
                | ((with_reducible refine wpList_at ⟨none, .store _ (.tmp 12) _, _, _, _, _⟩ ?_); refine wpList_store_all rfl _ _ _ rfl w4.heap.size rfl _ _ z5 (c3 x y z) rfl (c3_one _ _ _) rfl (by kernel_rfl) ?_; intro w6 z6 g6; have p6 := p5.kept g6 (by omega) (by omega); have k6 := k5.kept g6 (by simp; omega); have G6 := grown_new (grown_trans G4 (below_grownBy b5 (some g))) g6 (by omega); have HMJ := Lib.hid (rmajority_any ⟨w4.heap.size, 0, none⟩ 3 x y z w6 (z6.reads rfl))))
              rw [hm] at HMJ
              refine HMJ.out.mono ?_
              rintro e _ ⟨rfl, rfl⟩
              go_wp2_with fail
              try rw [Exit.noGoto_ret]
              go_ret
              have HFF : FW = (st3, b) := by rw [HW2.out, HE.out]; rfl
              rw [HFF]
              exact ⟨rfl, p6, G6⟩
            | true =>
              have HE := Lib.hid (show FK = rtKinds bank b (ks.drop (j + 1)) st3 by rw [HDK.out, if_neg (by rw [hm]; simp)])
              clear HDK
              go_wp2_with fail
              refine HCC.out.mono ?_
              rintro e w4 ⟨rfl, p4, g4⟩
              have hs4 := g4.size
              have k4 := k2.kept g4 (by simp; omega)
              have G4 := grown_trans G2 g4
              go_wp2_with (first
                | (with_reducible refine wpList_alloc_row (o := ⟨some 12, _, _, _, _, _⟩) rfl _ rfl zero3i zero_3i ?_; intro w5 z5 s5 g5; have b5 := grown_below g5 (Nat.le_refl _) (by simp); have p5 := p4.on b5; have k5 := k4.on b5)
                | ((with_reducible refine wpList_at ⟨none, .store _ (.tmp 12) _, _, _, _, _⟩ ?_); refine wpList_store_all rfl _ _ _ rfl w4.heap.size rfl _ _ z5 (c3 x y z) rfl (c3_one _ _ _) rfl (by kernel_rfl) ?_; intro w6 z6 g6; have p6 := p5.kept g6 (by omega) (by omega); have k6 := k5.kept g6 (by simp; omega); have G6 := grown_new (grown_trans G4 (below_grownBy b5 (some g))) g6 (by omega); have HMJ := Lib.hid (rmajority_any ⟨w4.heap.size, 0, none⟩ 3 x y z w6 (z6.reads rfl))))
              rw [hm] at HMJ
              refine HMJ.out.mono ?_
              rintro e _ ⟨rfl, rfl⟩
              go_wp2_with fail
              go_roundg (gk - 1)
              case measure => have := HJ.out; omega
              case rel => exact ⟨j + 1, st3, by go_num, HE, by have := HJ.out; show _ = _; omega, by omega, hok3, p6, k6, G6⟩
          · have HE := Lib.hid (show FK = rtKinds bank b (ks.drop (j + 1)) st3 by rw [HDK.out, if_neg (by simp)])
            clear HDK
            go_wp2_with fail
            refine HCC.out.mono ?_
            rintro e w4 ⟨rfl, p4, g4⟩
            have hs4 := g4.size
            have k4 := k2.kept g4 (by simp; omega)
            have G4 := grown_trans G2 g4
            go_wp2_with (first
              | (with_reducible refine wpList_alloc_row (o := ⟨some 12, _, _, _, _, _⟩) rfl _ rfl zero3i zero_3i ?_; intro w5 z5 s5 g5; have b5 := grown_below g5 (Nat.le_refl _) (by simp); have p5 := p4.on b5; have k5 := k4.on b5)
              | ((with_reducible refine wpList_at ⟨none, .store _ (.tmp 12) _, _, _, _, _⟩ ?_); refine wpList_store_all rfl _ _ _ rfl w4.heap.size rfl _ _ z5 (c3 x y z) rfl (c3_one _ _ _) rfl (by kernel_rfl) ?_; intro w6 z6 g6; have p6 := p5.kept g6 (by omega) (by omega); have k6 := k5.kept g6 (by simp; omega); have G6 := grown_new (grown_trans G4 (below_grownBy b5 (some g))) g6 (by omega)))
            go_roundg (gk - 1)
            case measure => have := HJ.out; omega
            case rel => exact ⟨j + 1, st3, by go_num, HE, by have := HJ.out; show _ = _; omega, by omega, hok3, p6, k6, G6⟩
        · obtain rfl : j = nk := by omega
          have HE : Hid (FW = rtWalk bank ks (b + 1) (g0 - 1) st2) := Lib.hid (by
            have h1 : FK = (st2, false) := by rw [HD.out, List.drop_of_length_le (by rw [← HNK.out]; exact Nat.le_refl _), HKN.out]
            rw [HW2.out, h1]; rfl)
          go_wp2_with fail
          go_roundg (g0 - 1)
          case measure => have := HG.out; have := HG0.out; omega
          case rel => exact ⟨b + 1, st2, by go_num, HE, by have := HG.out; have := HG0.out; show _ = _; omega, by omega, hok2, p2, k2, G2⟩
    · have HE : Hid (FW = (st, b)) := Lib.hid (by
        have h1 := HG.out
        rw [HW.out, show gk = 0 by omega, HZ.out])
      go_wp2_with fail
      try rw [Exit.noGoto_ret]
      go_ret
      rw [HE.out]
      exact ⟨rfl, p1, G1⟩
end Go.Proofs.Ytfcbcclcmgheeaa
