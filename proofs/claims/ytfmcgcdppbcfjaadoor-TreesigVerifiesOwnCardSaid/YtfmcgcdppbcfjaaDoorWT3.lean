/-
  TreesigVerifiesOwn's walk: what Sign returns verifies. Condition: the table of constants as laid.
-/
import Derived.Test.YtfmcgcdppbcfjaaDoorTown
namespace Go.Proofs.YtfmcgcdppbcfjaaDoor
open Go.RowKit

set_option maxRecDepth 100000 in
set_option maxHeartbeats 4000000 in
theorem walkT3 (seed msg : List UInt8) (hs : seed.length = 16) (hm : msg.length = 16) (x y : Nat) (hx : x ≤ 255) (hy : y ≤ 255) (w : World) (hCo : Consts w) :
    Calls Tryd.prog 5 #[.agg (bvs seed ++ ([Value.int .u8 (x : Int), Value.int .u8 (y : Int)] ++ bvs msg)).toArray] w (TellsB true w) := by
  have HS := Lib.hid hs
  have HM := Lib.hid hm
  obtain ⟨k, hkx⟩ : ∃ k : Nat, (x : Int) % 5 = (k : Int) := ⟨x % 5, by omega⟩
  have hk4 : k ≤ 4 := by omega
  obtain ⟨i, hiy⟩ : ∃ i : Nat, (y : Int) % ((2 ^ k : Nat) : Int) = (i : Int) := ⟨y % 2 ^ k, by rw [Int.natCast_emod]⟩
  have hp := Nat.two_pow_pos k
  have hi : i < 2 ^ k := by
    have := Int.emod_lt_of_pos (y : Int) (show (0 : Int) < ((2 ^ k : Nat) : Int) by omega)
    omega
  have h16 := two_le16 hk4
  have HMY := fun W => Lib.hid (refMany_two k hk4 W)
  have HRO := fun W hW => Lib.hid (troot_own seed hs k hk4 W hW)
  have HSO := fun W hW => Lib.hid (tsign_own seed msg hs hm k i hk4 hi W hW)
  have HSA := fun W hW => Lib.hid (sanity5_any W hW)
  have HDL := Lib.hid (root_len (tKeys seed (2 ^ k)))
  have HVF := fun A B c d W hW hC hP hc hd => Lib.hid (tverify_any (root (tKeys seed (2 ^ k))) msg HDL.out hm (k : Int) (i : Int) (by omega) (by omega) (by omega) (by omega) A B 68 c k d (wSign seed (i : Int) msg) (mProof (tKeys seed (2 ^ k)) i) W hW hC hP hc hd (by omega) (by omega))
  rw [tVerify_two seed msg hk4 hi] at HVF
  generalize root (tKeys seed (2 ^ k)) = D at *
  generalize wSign seed (i : Int) msg = C at *
  generalize mProof (tKeys seed (2 ^ k)) i = P at *
  obtain ⟨cs, hcs⟩ : ∃ cs : List Value, cs = bvs seed ++ ([Value.int .u8 (x : Int), Value.int .u8 (y : Int)] ++ bvs msg) := ⟨_, rfl⟩
  have hl16 : (bvs seed).length = 16 := by rw [bvs_length, hs]
  have HA1 : ∀ w g t, Row w g t cs → Hid (∀ j u, (bvs seed)[j]? = some u → w.cell? ((⟨g, 0, none⟩ : Addr).add j) = some u) := fun w g t hr => Row.part hr (pre := []) (post := [Value.int .u8 (x : Int), Value.int .u8 (y : Int)] ++ bvs msg) hcs rfl
  have HA4 : ∀ w g t, Row w g t cs → Hid (∀ j u, (bvs msg)[j]? = some u → w.cell? ((⟨g, 18, none⟩ : Addr).add j) = some u) := fun w g t hr => Row.part hr (pre := bvs seed ++ [Value.int .u8 (x : Int), Value.int .u8 (y : Int)]) (post := []) (by rw [hcs]; simp) (by rw [List.length_append, hl16]; rfl)
  have HA2 : Hid (cs[16]? = some (.int .u8 (x : Int))) := by show _ = _; rw [hcs, List.getElem?_append_right (by omega), hl16]; rfl
  have HA3 : Hid (cs[17]? = some (.int .u8 (y : Int))) := by show _ = _; rw [hcs, List.getElem?_append_right (by omega), hl16]; rfl
  rw [← hcs]
  clear hcs hl16 hs hm
  have HPW : Hid (∀ q : Nat, q = 2 ^ k → (y : Int) % (q : Int) = (i : Int)) := fun q hq => by rw [hq]; exact hiy
  clear hiy
  generalize 2 ^ k = M at *
  have hiy := HPW.out M rfl
  clear HPW
  go_enter Tryd.func5, Tryd.ntmps5
  go_wp2_with (first
    | (with_reducible refine wpList_box_row (o := ⟨some 1, _, _, _, _, _⟩) rfl _ _ rfl (cs) rfl ?_; intro w1 In_1 s1 g1; have k1 : Below w.heap.size w w1 := grown_below g1 (Nat.le_refl _) (by simp); have B1 : Below w.heap.size w w1 := k1; have K_1 := hCo.on k1)
    | (refine wpList_valueG (o := ⟨some 15, _, _, _, _, _⟩) rfl _ (by exact exec_load16 _ _ rfl _ rfl seed HS.out (HA1 _ _ _ In_1).out) ?_)
    | (with_reducible refine wpList_alloc_row (o := ⟨some 3, _, _, _, _, _⟩) rfl _ rfl zeros16 zero_b16 ?_; intro w2 r2 s2 g2)
    | (with_reducible refine wpList_at ⟨none, .store _ (.tmp 3) _, _, _, _, _⟩ ?_; refine wpList_store_all rfl _ _ _ rfl w1.heap.size rfl _ _ r2 (bvs seed) rfl (bvs_one _) (b16_zeros _ HS.out) (b16_size _ HS.out) ?_; intro w3 sd_3 g3; have k3 : Below w1.heap.size w1 w3 := below_kept (grown_below g2 (Nat.le_refl _) (by simp)) g3 (Nat.le_of_lt s2) (by rintro q hq; cases hq; exact Nat.le_refl _); have B3 := B1.trans (k3.mono B1.size); have K_3 := K_1.on k3; have In_3 := In_1.on k3; clear K_1 In_1; clear r2 g2 g3)
    | (refine wpList_valueG (o := ⟨some 17, _, _, _, _, _⟩) rfl _ (by exact exec_load1 _ 5 _ rfl ⟨w.heap.size, 16, none⟩ rfl _ (In_3.cell (j := 16) HA2.out) _ Tryd.underlying5 rfl) ?_)
    | (refine wpList_valueG (o := ⟨some 19, _, _, _, _, _⟩) rfl _ (by exact exec_load1 _ 5 _ rfl ⟨w.heap.size, 17, none⟩ rfl _ (In_3.cell (j := 17) HA3.out) _ Tryd.underlying5 rfl) ?_)
    | (refine wpList_valueG (o := ⟨some 21, _, _, _, _, _⟩) rfl _ (by exact exec_load16 _ _ rfl _ rfl msg HM.out (HA4 _ _ _ In_3).out) ?_)
    | (with_reducible refine wpList_alloc_row (o := ⟨some 6, _, _, _, _, _⟩) rfl _ rfl zeros16 zero_b16 ?_; intro w4 r4 s4 g4)
    | (with_reducible refine wpList_at ⟨none, .store _ (.tmp 6) _, _, _, _, _⟩ ?_; refine wpList_store_all rfl _ _ _ rfl w3.heap.size rfl _ _ r4 (bvs msg) rfl (bvs_one _) (b16_zeros _ HM.out) (b16_size _ HM.out) ?_; intro w5 mg_5 g5; have k5 : Below w3.heap.size w3 w5 := below_kept (grown_below g4 (Nat.le_refl _) (by simp)) g5 (Nat.le_of_lt s4) (by rintro q hq; cases hq; exact Nat.le_refl _); have B5 := B3.trans (k5.mono B3.size); have K_5 := K_3.on k5; have In_5 := In_3.on k5; have sd_5 := sd_3.on k5; clear K_3 In_3 sd_3; clear r4 g4 g5))
  refine ((HSA _ K_5).out).mono ?_
  rintro e w6 ⟨rfl, h6⟩
  have B6 := B5.trans (h6.mono B5.size)
  have K_6 := K_5.on h6
  have In_6 := In_5.on h6
  have sd_6 := sd_5.on h6
  have mg_6 := mg_5.on h6
  clear K_5 In_5 sd_5 mg_5
  go_wp2_with fail
  refine ((HMY _).out).mono ?_
  rintro e _ ⟨rfl, rfl⟩
  go_wp2_with (refine wpList_valueG (o := ⟨some 32, _, _, _, _, _⟩) rfl _ (by exact exec_load16 _ _ rfl _ rfl seed HS.out sd_6.cells) ?_)
  refine ((HRO _ K_6).out).mono ?_
  rintro e w7 ⟨rfl, h7⟩
  have B7 := B6.trans (h7.mono B6.size)
  have K_7 := K_6.on h7
  have In_7 := In_6.on h7
  have sd_7 := sd_6.on h7
  have mg_7 := mg_6.on h7
  clear K_6 In_6 sd_6 mg_6
  go_wp2_with (first
    | (with_reducible refine wpList_alloc_row (o := ⟨some 10, _, _, _, _, _⟩) rfl _ rfl zeros16 zero_b16 ?_; intro w8 r8 s8 g8)
    | (with_reducible refine wpList_at ⟨none, .store _ (.tmp 10) _, _, _, _, _⟩ ?_; refine wpList_store_all rfl _ _ _ rfl w7.heap.size rfl _ _ r8 (bvs D) rfl (bvs_one _) (b16_zeros _ HDL.out) (b16_size _ HDL.out) ?_; intro w9 a_9 g9; have k9 : Below w7.heap.size w7 w9 := below_kept (grown_below g8 (Nat.le_refl _) (by simp)) g9 (Nat.le_of_lt s8) (by rintro q hq; cases hq; exact Nat.le_refl _); have B9 := B7.trans (k9.mono B7.size); have K_9 := K_7.on k9; have In_9 := In_7.on k9; have sd_9 := sd_7.on k9; have mg_9 := mg_7.on k9; clear K_7 In_7 sd_7 mg_7; clear r8 g8 g9)
    | (refine wpList_valueG (o := ⟨some 38, _, _, _, _, _⟩) rfl _ (by exact exec_load16 _ _ rfl _ rfl seed HS.out sd_9.cells) ?_)
    | (refine wpList_valueG (o := ⟨some 41, _, _, _, _, _⟩) rfl _ (by exact exec_load16 _ _ rfl _ rfl msg HM.out mg_9.cells) ?_))
  refine ((HSO _ K_9).out).mono ?_
  rintro e w10 ⟨A1, c1, B1, d1, rfl, hC1, hP1, hc1, hd1, h10⟩
  have B10 := B9.trans (h10.mono B9.size)
  have K_10 := K_9.on h10
  have In_10 := In_9.on h10
  have sd_10 := sd_9.on h10
  have mg_10 := mg_9.on h10
  have a_10 := a_9.on h10
  clear K_9 In_9 sd_9 mg_9 a_9
  go_wp2_with (first
    | (with_reducible refine wpList_alloc_row (o := ⟨some 12, _, _, _, _, _⟩) rfl _ rfl sgz zero_sig ?_; intro w11 r11 s11 g11)
    | (with_reducible refine wpList_at ⟨none, .store _ (.tmp 12) _, _, _, _, _⟩ ?_; refine wpList_store_all rfl _ _ _ rfl w10.heap.size rfl _ _ r11 [.int .i64 (i : Int), .slice A1 68 c1, .slice B1 k d1] rfl (by simp [Value.oneCell']) rfl (sig_size _ _ _) ?_; intro w12 x_12 g12; have k12 : Below w10.heap.size w10 w12 := below_kept (grown_below g11 (Nat.le_refl _) (by simp)) g12 (Nat.le_of_lt s11) (by rintro q hq; cases hq; exact Nat.le_refl _); have B12 := B10.trans (k12.mono B10.size); have K_12 := K_10.on k12; have In_12 := In_10.on k12; have sd_12 := sd_10.on k12; have mg_12 := mg_10.on k12; have a_12 := a_10.on k12; have C1_12 := hC1.on k12; have P1_12 := hP1.on k12; clear K_10 In_10 sd_10 mg_10 a_10; clear r11 g11 g12)
    | (refine wpList_valueG (o := ⟨some 56, _, _, _, _, _⟩) rfl _ (by exact exec_load1 _ 3 _ rfl ⟨w10.heap.size, 0, none⟩ rfl _ (x_12.cell (j := 0) rfl) _ Tryd.underlying3 rfl) ?_)
    | (refine wpList_valueG (o := ⟨some 62, _, _, _, _, _⟩) rfl _ (by exact exec_load1 _ 30 _ rfl ⟨w10.heap.size, 2, none⟩ rfl _ (x_12.cell (j := 2) rfl) _ Tryd.underlying30 rfl) ?_)
    | (refine wpList_valueG (o := ⟨some 69, _, _, _, _, _⟩) rfl _ (by exact exec_load1 _ 30 _ rfl ⟨w10.heap.size, 1, none⟩ rfl _ (x_12.cell (j := 1) rfl) _ Tryd.underlying30 rfl) ?_)
    | (refine wpList_valueG (o := ⟨some 74, _, _, _, _, _⟩) rfl _ (by exact exec_load16 _ _ rfl _ rfl D HDL.out a_12.cells) ?_)
    | (refine wpList_valueG (o := ⟨some 76, _, _, _, _, _⟩) rfl _ (by exact exec_load16 _ _ rfl _ rfl msg HM.out mg_12.cells) ?_)
    | (refine wpList_valueG (o := ⟨some 77, _, _, _, _, _⟩) rfl _ (by exact exec_load_sig _ _ rfl _ rfl _ _ _ x_12.cells) ?_))
  refine ((HVF _ _ _ _ _ K_12 C1_12 P1_12 hc1 hd1).out).mono ?_
  rintro e w13 ⟨rfl, h13⟩
  have B13 := B12.trans (h13.mono B12.size)
  have K_13 := K_12.on h13
  have In_13 := In_12.on h13
  have sd_13 := sd_12.on h13
  have mg_13 := mg_12.on h13
  have a_13 := a_12.on h13
  have C1_13 := C1_12.on h13
  have P1_13 := P1_12.on h13
  have x_13 := x_12.on h13
  clear K_12 In_12 sd_12 mg_12 a_12 C1_12 P1_12 x_12
  go_wp2_with fail
  go_ret
  exact ⟨rfl, B13⟩
end Go.Proofs.YtfmcgcdppbcfjaaDoor
