/-
  MerkleBinding's walk. Condition: the table of constants as laid.
-/
import Derived.Test.YtpmkjnmddglckaaDoorSan3
import Derived.Test.YtpmkjnmddglckaaDoorRDiff
namespace Go.Proofs.YtpmkjnmddglckaaDoor
open Go.RowKit

set_option maxRecDepth 100000 in
set_option maxHeartbeats 2000000 in
theorem walkBind (A B : Option Addr) (n c m d : Nat) (a b : List (List UInt8)) (w : World) (hK : Consts w) (ha : ReadsD w A n a) (hc : n ≤ c) (hn : n ≤ 140737488351232) (hb : ReadsD w B m b) (hd : m ≤ d) (hm : m ≤ 140737488351232) :
    Calls Tryd.prog 7 #[.slice A n c, .slice B m d] w fun e w' => e = .returned (.bool true) ∧ Below w.heap.size w w' := by
  by_cases h40 : 40 < n
  · go_enter Tryd.func7, Tryd.ntmps7
    go_wp2_with fail
    refine (sanity_any _ hK).mono ?_
    rintro e w1 ⟨rfl, hb1⟩
    go_wp2_with fail
    go_ret
    exact ⟨rfl, hb1⟩
  by_cases hnm : n = m
  · subst hnm
    have L1 := Lib.hid (root_len a)
    have L2 := Lib.hid (root_len b)
    have H1 := fun W hKW hW => Lib.hid (root_any A c n a W hKW hW hc (by omega))
    have H2 := fun W hKW hW => Lib.hid (root_any B d n b W hKW hW hd (by omega))
    have HDf := fun W h1 h2 => Lib.hid (refDiffers_any 1000 A B c d n a b W (by omega) h1 h2 hc hd (by omega))
    have HSm := fun (W : World) (h1 : ReadsD W A n a) (h2 : ReadsD W B n b) => Lib.hid (refSame_any A B c d a b n n W _ _ h1.1 h2.1 h1.2 h2.2 (by omega) (by omega))
    have HBi : Hid (root a = root b → a ≠ b → differs a b = true) := binding a.length a b (Nat.le_refl _) (by rw [ha.len, hb.len])
    have HNe : Hid (root a ≠ root b → a ≠ b) := fun h e => h (by rw [e])
    obtain ⟨sm, hsm⟩ : ∃ sm, sm = (a == b) := ⟨_, rfl⟩
    rw [← hsm] at HSm
    obtain ⟨X, hX⟩ : ∃ X, X = root a := ⟨_, rfl⟩
    obtain ⟨Y, hY⟩ : ∃ Y, Y = root b := ⟨_, rfl⟩
    rw [← hX] at L1 H1 HBi HNe
    rw [← hY] at L2 H2 HBi HNe
    obtain ⟨df, hdf⟩ : ∃ df, df = differs a b := ⟨_, rfl⟩
    rw [← hdf] at HDf HBi
    clear hX hY hdf
    cases hq : (X == Y) with
    | false =>
      have hs0 : sm = false := by
        rw [hsm]
        simp only [beq_eq_false_iff_ne, ne_eq] at hq ⊢
        exact HNe.out hq
      subst hs0
      clear hsm
      go_enter Tryd.func7, Tryd.ntmps7
      go_wp2_with fail
      refine (sanity_any _ hK).mono ?_
      rintro e w1 ⟨rfl, hb1⟩
      go_wp2_with fail
      refine (HSm _ (ha.on hb1) (hb.on hb1)).out.mono ?_
      rintro e w2 ⟨rfl, m2, hw2⟩
      have hb2 : Below w.heap.size w w2 := by rw [hw2]; exact below_drewN hb1 _
      clear hw2
      go_wp2_with fail
      refine (H1 _ (hK.on hb2) (ha.on hb2)).out.mono ?_
      rintro e w3 ⟨rfl, hb3⟩
      have hb3' := hb2.trans (hb3.mono hb2.size)
      go_wp2_with fail
      refine (H2 _ (hK.on hb3') (hb.on hb3')).out.mono ?_
      rintro e w4 ⟨rfl, hb4⟩
      have hb4' := hb3'.trans (hb4.mono hb3'.size)
      go_wp2_with (refine wpList_valueG (o := ⟨some 26, _, _, _, _, _⟩) rfl _ (by exact exec_neq16 _ _ _ rfl X Y L1.out L2.out rfl rfl) ?_; rw [hq])
      go_ret
      exact ⟨rfl, hb4'⟩
    | true =>
      have hXY : X = Y := by simpa using hq
      cases sm with
      | true =>
        clear hsm hXY
        go_enter Tryd.func7, Tryd.ntmps7
        go_wp2_with fail
        refine (sanity_any _ hK).mono ?_
        rintro e w1 ⟨rfl, hb1⟩
        go_wp2_with fail
        refine (HSm _ (ha.on hb1) (hb.on hb1)).out.mono ?_
        rintro e w2 ⟨rfl, m2, hw2⟩
        have hb2 : Below w.heap.size w w2 := by rw [hw2]; exact below_drewN hb1 _
        clear hw2
        go_wp2_with fail
        refine (H1 _ (hK.on hb2) (ha.on hb2)).out.mono ?_
        rintro e w3 ⟨rfl, hb3⟩
        have hb3' := hb2.trans (hb3.mono hb2.size)
        go_wp2_with fail
        refine (H2 _ (hK.on hb3') (hb.on hb3')).out.mono ?_
        rintro e w4 ⟨rfl, hb4⟩
        have hb4' := hb3'.trans (hb4.mono hb3'.size)
        go_wp2_with (refine wpList_valueG (o := ⟨some 26, _, _, _, _, _⟩) rfl _ (by exact exec_neq16 _ _ _ rfl X Y L1.out L2.out rfl rfl) ?_; rw [hq])
        go_ret
        exact ⟨rfl, hb4'⟩
      | false =>
        have hd1 : df = true := HBi.out hXY (by simpa using hsm)
        subst hd1
        clear hsm hXY
        go_enter Tryd.func7, Tryd.ntmps7
        go_wp2_with fail
        refine (sanity_any _ hK).mono ?_
        rintro e w1 ⟨rfl, hb1⟩
        go_wp2_with fail
        refine (HSm _ (ha.on hb1) (hb.on hb1)).out.mono ?_
        rintro e w2 ⟨rfl, m2, hw2⟩
        have hb2 : Below w.heap.size w w2 := by rw [hw2]; exact below_drewN hb1 _
        clear hw2
        go_wp2_with fail
        refine (H1 _ (hK.on hb2) (ha.on hb2)).out.mono ?_
        rintro e w3 ⟨rfl, hb3⟩
        have hb3' := hb2.trans (hb3.mono hb2.size)
        go_wp2_with fail
        refine (H2 _ (hK.on hb3') (hb.on hb3')).out.mono ?_
        rintro e w4 ⟨rfl, hb4⟩
        have hb4' := hb3'.trans (hb4.mono hb3'.size)
        go_wp2_with (refine wpList_valueG (o := ⟨some 26, _, _, _, _, _⟩) rfl _ (by exact exec_neq16 _ _ _ rfl X Y L1.out L2.out rfl rfl) ?_; rw [hq])
        refine (HDf _ (ha.on hb4') (hb.on hb4')).out.mono ?_
        rintro e w5 ⟨rfl, hb5⟩
        have hb5' := hb4'.trans (hb5.mono hb4'.size)
        go_wp2_with fail
        go_ret
        exact ⟨rfl, hb5'⟩
  · have hne : ((n : Int) != (m : Int)) = true := by simp only [bne_iff_ne, ne_eq]; omega
    go_enter Tryd.func7, Tryd.ntmps7
    go_wp2_with fail
    refine (sanity_any _ hK).mono ?_
    rintro e w1 ⟨rfl, hb1⟩
    go_wp2_with fail
    go_ret
    exact ⟨rfl, hb1⟩
end Go.Proofs.YtpmkjnmddglckaaDoor
