/-
  FusePermanent's walk. No condition but bounded lengths.
-/
import Derived.Test.YtliaapgnknbmbaaSan7
import Derived.Test.YtliaapgnknbmbaaFuM2
import Derived.Test.YtliaapgnknbmbaaFuRV
import Derived.Test.YtliaapgnknbmbaaFuR
namespace Go.Proofs.Ytliaapgnknbmbaa
open Go.RowKit

theorem valid_n {W : World} {A : Option Addr} {n c : Nat} {ps : List Part} (h : FuOK W A n c ps) (hv : fuValid (bk ps) = true) : n ≤ 4 := by
  have h1 := h.1.len
  have h2 := bk_len ps
  have := valid_len hv
  omega
theorem valid_l {bs : List (List UInt8)} (hv : fuValid bs = true) : ∀ l ∈ bs, l.length ≤ 1000 := fun l hl => by
  obtain ⟨k, hk⟩ := List.mem_iff_getElem?.1 hl
  have := (valid_bank hv hk).2.1
  omega

set_option maxRecDepth 100000 in
set_option maxHeartbeats 4000000 in
theorem walk77 (A : Option Addr) (n c : Nat) (ps : List Part) (b i : Int) (L : Option Addr) (m d : Nat) (hs : List FHit) (noise : Bool) (w : World) (hok : FuOK w A n c ps) (hh : Reads w w.heap.size 3 L m (hvs hs)) :
    Calls Try.prog 9 #[fuv A n c, .int .i64 b, .int .i64 i, .slice L m d, .bool noise] w (TellsB true w) := by
  have HSA := fun W => sanity7_any W
  have HV := fun W (h : FuOK W A n c ps) => Lib.hid (rvalid_any A n c ps W h.1)
  have HX := fun W (h : FuOK W A n c ps) => Lib.hid (rexists_any A n c ps b i W h.1)
  unfold fuv at *
  cases hv : fuValid (bk ps) with
  | false =>
    rw [hv] at HV
    clear hv HX
    go_enter Try.func9, Try.ntmps9
    go_wp2_with (with_reducible refine wpList_box_row (o := ⟨some 5, _, _, _, _, _⟩) rfl _ _ rfl ([.slice A n c]) rfl ?_; intro w1 bx_1 s1 g1; have k1 : Below w.heap.size w w1 := grown_below g1 (Nat.le_refl _) (by simp); have B1 : Below w.heap.size w w1 := k1; have ok_1 := hok.on k1; have rh_1 := hh.on k1; have cbx := bx_1.cell (j := 0) rfl)
    refine ((HV _ ok_1).out).mono ?_
    rintro e w2 ⟨rfl, h2⟩
    have B2 := B1.trans (h2.mono B1.size)
    have ok_2 := ok_1.on h2
    have rh_2 := rh_1.on h2
    have bx_2 := bx_1.on h2
    clear ok_1 rh_1 bx_1
    have cbx := bx_2.cell (j := 0) rfl
    go_wp2_with fail
    refine (HSA _).mono ?_
    rintro e w3 ⟨rfl, h3⟩
    have B3 := B2.trans (h3.mono B2.size)
    have ok_3 := ok_2.on h3
    have rh_3 := rh_2.on h3
    have bx_3 := bx_2.on h3
    clear ok_2 rh_2 bx_2
    have cbx := bx_3.cell (j := 0) rfl
    go_wp2_with fail
    go_ret
    exact ⟨rfl, B3⟩
  | true =>
   rw [hv] at HV
   cases hx : fuEx (bk ps) b i with
   | false =>
    rw [hx] at HX
    clear hv hx
    go_enter Try.func9, Try.ntmps9
    go_wp2_with (with_reducible refine wpList_box_row (o := ⟨some 5, _, _, _, _, _⟩) rfl _ _ rfl ([.slice A n c]) rfl ?_; intro w1 bx_1 s1 g1; have k1 : Below w.heap.size w w1 := grown_below g1 (Nat.le_refl _) (by simp); have B1 : Below w.heap.size w w1 := k1; have ok_1 := hok.on k1; have rh_1 := hh.on k1; have cbx := bx_1.cell (j := 0) rfl)
    refine ((HV _ ok_1).out).mono ?_
    rintro e w2 ⟨rfl, h2⟩
    have B2 := B1.trans (h2.mono B1.size)
    have ok_2 := ok_1.on h2
    have rh_2 := rh_1.on h2
    have bx_2 := bx_1.on h2
    clear ok_1 rh_1 bx_1
    have cbx := bx_2.cell (j := 0) rfl
    go_wp2_with fail
    refine ((HX _ ok_2).out).mono ?_
    rintro e w3 ⟨rfl, h3⟩
    have B3 := B2.trans (h3.mono B2.size)
    have ok_3 := ok_2.on h3
    have rh_3 := rh_2.on h3
    have bx_3 := bx_2.on h3
    clear ok_2 rh_2 bx_2
    have cbx := bx_3.cell (j := 0) rfl
    go_wp2_with fail
    refine (HSA _).mono ?_
    rintro e w4 ⟨rfl, h4⟩
    have B4 := B3.trans (h4.mono B3.size)
    have ok_4 := ok_3.on h4
    have rh_4 := rh_3.on h4
    have bx_4 := bx_3.on h4
    clear ok_3 rh_3 bx_3
    have cbx := bx_4.cell (j := 0) rfl
    go_wp2_with fail
    go_ret
    exact ⟨rfl, B4⟩
   | true =>
    rw [hx] at HX
    by_cases hm100 : 100 < m
    · go_enter Try.func9, Try.ntmps9
      go_wp2_with (with_reducible refine wpList_box_row (o := ⟨some 5, _, _, _, _, _⟩) rfl _ _ rfl ([.slice A n c]) rfl ?_; intro w1 bx_1 s1 g1; have k1 : Below w.heap.size w w1 := grown_below g1 (Nat.le_refl _) (by simp); have B1 : Below w.heap.size w w1 := k1; have ok_1 := hok.on k1; have rh_1 := hh.on k1; have cbx := bx_1.cell (j := 0) rfl)
      refine ((HV _ ok_1).out).mono ?_
      rintro e w2 ⟨rfl, h2⟩
      have B2 := B1.trans (h2.mono B1.size)
      have ok_2 := ok_1.on h2
      have rh_2 := rh_1.on h2
      have bx_2 := bx_1.on h2
      clear ok_1 rh_1 bx_1
      have cbx := bx_2.cell (j := 0) rfl
      go_wp2_with fail
      refine ((HX _ ok_2).out).mono ?_
      rintro e w3 ⟨rfl, h3⟩
      have B3 := B2.trans (h3.mono B2.size)
      have ok_3 := ok_2.on h3
      have rh_3 := rh_2.on h3
      have bx_3 := bx_2.on h3
      clear ok_2 rh_2 bx_2
      have cbx := bx_3.cell (j := 0) rfl
      go_wp2_with fail
      refine (HSA _).mono ?_
      rintro e w4 ⟨rfl, h4⟩
      have B4 := B3.trans (h4.mono B3.size)
      have ok_4 := ok_3.on h4
      have rh_4 := rh_3.on h4
      have bx_4 := bx_3.on h4
      clear ok_3 rh_3 bx_3
      have cbx := bx_4.cell (j := 0) rfl
      go_wp2_with fail
      go_ret
      exact ⟨rfl, B4⟩
    · have HN := Lib.hid (valid_n hok hv)
      have HLL := Lib.hid (valid_l hv)
      have HH := fun W (h : FuOK W A n c ps) (g : Reads W W.heap.size 3 L m (hvs hs)) => Lib.hid (fhits_any A n c ps L m d hs W h (by have := HN.out; omega) HLL.out g (by omega))
      have HE := Lib.hid (hits_err hx hs)
      obtain ⟨k, j, l, rfl, rfl, hl, hj⟩ := fuEx_iff.1 hx
      obtain ⟨s, hs'⟩ : ∃ s, l[j]? = some s := ⟨_, List.getElem?_eq_getElem hj⟩
      have hat := fuAt_nat hl hs'
      obtain ⟨p, hpk, hpl⟩ : ∃ p, ps[k]? = some p ∧ p.l = l := by
        have h2 := hl
        unfold bk at h2
        rw [List.getElem?_map, Option.map_eq_some_iff] at h2
        exact h2
      have hkn : k < n := by rw [← hok.1.len]; exact (List.getElem?_eq_some_iff.1 hpk).1
      obtain ⟨ad, p', rfl, hlt, hpk', hc, hp, _⟩ := hok.1.at_ hkn
      rw [hpk] at hpk'
      cases hpk'
      subst hpl
      obtain ⟨pd, hpA, hlp, hd⟩ := hp.byte_at hs'
      have hjn : j < p.n := by rw [← hp.bytes_len]; exact hj
      rw [hpA] at hc
      have HC := Lib.hid hc
      unfold fuv at HH
      have HR0 := fun W A' n' c' ps' (h : FuOK W A' n' c' ps') (hb : bk ps' = fuHits (bk ps) hs) => Lib.hid (show Calls Try.prog 13 #[fuv A' n' c', .int .i64 (k : Int), .int .i64 (j : Int), .bool noise] W (TellsII (fuRead (fuHits (bk ps) hs) k j noise) 0 W) by
        have h0 := fread_any A' n' c' ps' (k : Int) (j : Int) noise W h.1
        rw [hb, HE.out] at h0
        exact h0)
      unfold fuv at HR0
      by_cases h2 : s = 2
      · have HR := HR0
        rw [hits_blown hx (by rw [hat]; exact h2) hs noise] at HR
        have HD : Hid (w.cell? (pd.add j) = some (.int .u8 2)) := Lib.hid (by rw [hd, h2]; rfl)
        clear HR0 hd hc hl hs' hat hx hv hpk h2 hp hpA
        go_enter Try.func9, Try.ntmps9
        go_wp2_with (with_reducible refine wpList_box_row (o := ⟨some 5, _, _, _, _, _⟩) rfl _ _ rfl ([.slice (some ad) n c]) rfl ?_; intro w1 bx_1 s1 g1; have k1 : Below w.heap.size w w1 := grown_below g1 (Nat.le_refl _) (by simp); have B1 : Below w.heap.size w w1 := k1; have ok_1 := hok.on k1; have rh_1 := hh.on k1; have cbx := bx_1.cell (j := 0) rfl)
        refine ((HV _ ok_1).out).mono ?_
        rintro e w2 ⟨rfl, h2⟩
        have B2 := B1.trans (h2.mono B1.size)
        have ok_2 := ok_1.on h2
        have rh_2 := rh_1.on h2
        have bx_2 := bx_1.on h2
        clear ok_1 rh_1 bx_1
        have cbx := bx_2.cell (j := 0) rfl
        go_wp2_with fail
        refine ((HX _ ok_2).out).mono ?_
        rintro e w3 ⟨rfl, h3⟩
        have B3 := B2.trans (h3.mono B2.size)
        have ok_3 := ok_2.on h3
        have rh_3 := rh_2.on h3
        have bx_3 := bx_2.on h3
        clear ok_2 rh_2 bx_2
        have cbx := bx_3.cell (j := 0) rfl
        go_wp2_with fail
        refine ((HH _ ok_3 rh_3).out).mono ?_
        rintro e w4 ⟨A5, n5, c5, ps5, rfl, ok54, hb5, h4⟩
        have B4 := B3.trans (h4.mono B3.size)
        have ok_4 := ok_3.on h4
        have rh_4 := rh_3.on h4
        have bx_4 := bx_3.on h4
        clear ok_3 rh_3 bx_3
        have cbx := bx_4.cell (j := 0) rfl
        have HB5 := Lib.hid hb5
        clear hb5
        unfold fuv
        go_wp2_with fail
        refine ((HR _ A5 n5 c5 ps5 ok54 HB5.out).out).mono ?_
        rintro e w5 ⟨rfl, h5⟩
        have B5 := B4.trans (h5.mono B4.size)
        have ok_5 := ok_4.on h5
        have rh_5 := rh_4.on h5
        have bx_5 := bx_4.on h5
        have ok5_5 := ok54.on h5
        clear ok_4 rh_4 bx_4
        have cbx := bx_5.cell (j := 0) rfl
        have hk5 := (B5.cell (by rw [block_of_add]; exact hlt)).trans HC.out
        have hj5 := (B5.cell (by rw [block_of_add]; exact hlp)).trans HD.out
        go_wp2_with fail
        refine (HSA _).mono ?_
        rintro e w6 ⟨rfl, h6⟩
        have B6 := B5.trans (h6.mono B5.size)
        have ok_6 := ok_5.on h6
        have rh_6 := rh_5.on h6
        have bx_6 := bx_5.on h6
        have ok5_6 := ok5_5.on h6
        clear ok_5 rh_5 bx_5 ok5_5
        have cbx := bx_6.cell (j := 0) rfl
        go_wp2_with fail
        go_ret
        exact ⟨rfl, B6⟩
      · by_cases h3 : s = 3
        · have HR := HR0
          rw [hits_stuck hx (by rw [hat]; exact h3) hs noise] at HR
          have HD : Hid (w.cell? (pd.add j) = some (.int .u8 3)) := Lib.hid (by rw [hd, h3]; rfl)
          clear HR0 hd hc hl hs' hat hx hv hpk h2 h3 hp hpA
          go_enter Try.func9, Try.ntmps9
          go_wp2_with (with_reducible refine wpList_box_row (o := ⟨some 5, _, _, _, _, _⟩) rfl _ _ rfl ([.slice (some ad) n c]) rfl ?_; intro w1 bx_1 s1 g1; have k1 : Below w.heap.size w w1 := grown_below g1 (Nat.le_refl _) (by simp); have B1 : Below w.heap.size w w1 := k1; have ok_1 := hok.on k1; have rh_1 := hh.on k1; have cbx := bx_1.cell (j := 0) rfl)
          refine ((HV _ ok_1).out).mono ?_
          rintro e w2 ⟨rfl, h2⟩
          have B2 := B1.trans (h2.mono B1.size)
          have ok_2 := ok_1.on h2
          have rh_2 := rh_1.on h2
          have bx_2 := bx_1.on h2
          clear ok_1 rh_1 bx_1
          have cbx := bx_2.cell (j := 0) rfl
          go_wp2_with fail
          refine ((HX _ ok_2).out).mono ?_
          rintro e w3 ⟨rfl, h3⟩
          have B3 := B2.trans (h3.mono B2.size)
          have ok_3 := ok_2.on h3
          have rh_3 := rh_2.on h3
          have bx_3 := bx_2.on h3
          clear ok_2 rh_2 bx_2
          have cbx := bx_3.cell (j := 0) rfl
          go_wp2_with fail
          refine ((HH _ ok_3 rh_3).out).mono ?_
          rintro e w4 ⟨A5, n5, c5, ps5, rfl, ok54, hb5, h4⟩
          have B4 := B3.trans (h4.mono B3.size)
          have ok_4 := ok_3.on h4
          have rh_4 := rh_3.on h4
          have bx_4 := bx_3.on h4
          clear ok_3 rh_3 bx_3
          have cbx := bx_4.cell (j := 0) rfl
          have HB5 := Lib.hid hb5
          clear hb5
          unfold fuv
          go_wp2_with fail
          refine ((HR _ A5 n5 c5 ps5 ok54 HB5.out).out).mono ?_
          rintro e w5 ⟨rfl, h5⟩
          have B5 := B4.trans (h5.mono B4.size)
          have ok_5 := ok_4.on h5
          have rh_5 := rh_4.on h5
          have bx_5 := bx_4.on h5
          have ok5_5 := ok54.on h5
          clear ok_4 rh_4 bx_4
          have cbx := bx_5.cell (j := 0) rfl
          have hk5 := (B5.cell (by rw [block_of_add]; exact hlt)).trans HC.out
          have hj5 := (B5.cell (by rw [block_of_add]; exact hlp)).trans HD.out
          go_wp2_with fail
          refine (HSA _).mono ?_
          rintro e w6 ⟨rfl, h6⟩
          have B6 := B5.trans (h6.mono B5.size)
          have ok_6 := ok_5.on h6
          have rh_6 := rh_5.on h6
          have bx_6 := bx_5.on h6
          have ok5_6 := ok5_5.on h6
          clear ok_5 rh_5 bx_5 ok5_5
          have cbx := bx_6.cell (j := 0) rfl
          go_wp2_with fail
          go_ret
          exact ⟨rfl, B6⟩
        · have HD : Hid (w.cell? (pd.add j) = some (.int .u8 (s.toNat : Int))) := Lib.hid hd
          have e2 : (((s.toNat : Nat) : Int) == 2) = false := by
            have : s.toNat ≠ 2 := fun e => h2 (UInt8.toNat.inj e)
            simp only [beq_eq_false_iff_ne, ne_eq]; omega
          have e3 : (((s.toNat : Nat) : Int) == 3) = false := by
            have : s.toNat ≠ 3 := fun e => h3 (UInt8.toNat.inj e)
            simp only [beq_eq_false_iff_ne, ne_eq]; omega
          have HBD := Lib.hid (fuRead_bd (fuHits (bk ps) hs) (k : Int) (j : Int) noise)
          have HR := HR0
          clear HR0 hd hc hl hs' hat hx hv hpk h2 h3 hp hpA
          generalize fuRead (fuHits (bk ps) hs) (k : Int) (j : Int) noise = R at *
          generalize s.toNat = sv at *
          rcases (show R = 0 ∨ R = 1 by have := HBD.out; omega) with rfl | rfl
          · go_enter Try.func9, Try.ntmps9
            go_wp2_with (with_reducible refine wpList_box_row (o := ⟨some 5, _, _, _, _, _⟩) rfl _ _ rfl ([.slice (some ad) n c]) rfl ?_; intro w1 bx_1 s1 g1; have k1 : Below w.heap.size w w1 := grown_below g1 (Nat.le_refl _) (by simp); have B1 : Below w.heap.size w w1 := k1; have ok_1 := hok.on k1; have rh_1 := hh.on k1; have cbx := bx_1.cell (j := 0) rfl)
            refine ((HV _ ok_1).out).mono ?_
            rintro e w2 ⟨rfl, h2⟩
            have B2 := B1.trans (h2.mono B1.size)
            have ok_2 := ok_1.on h2
            have rh_2 := rh_1.on h2
            have bx_2 := bx_1.on h2
            clear ok_1 rh_1 bx_1
            have cbx := bx_2.cell (j := 0) rfl
            go_wp2_with fail
            refine ((HX _ ok_2).out).mono ?_
            rintro e w3 ⟨rfl, h3⟩
            have B3 := B2.trans (h3.mono B2.size)
            have ok_3 := ok_2.on h3
            have rh_3 := rh_2.on h3
            have bx_3 := bx_2.on h3
            clear ok_2 rh_2 bx_2
            have cbx := bx_3.cell (j := 0) rfl
            go_wp2_with fail
            refine ((HH _ ok_3 rh_3).out).mono ?_
            rintro e w4 ⟨A5, n5, c5, ps5, rfl, ok54, hb5, h4⟩
            have B4 := B3.trans (h4.mono B3.size)
            have ok_4 := ok_3.on h4
            have rh_4 := rh_3.on h4
            have bx_4 := bx_3.on h4
            clear ok_3 rh_3 bx_3
            have cbx := bx_4.cell (j := 0) rfl
            have HB5 := Lib.hid hb5
            clear hb5
            unfold fuv
            go_wp2_with fail
            refine ((HR _ A5 n5 c5 ps5 ok54 HB5.out).out).mono ?_
            rintro e w5 ⟨rfl, h5⟩
            have B5 := B4.trans (h5.mono B4.size)
            have ok_5 := ok_4.on h5
            have rh_5 := rh_4.on h5
            have bx_5 := bx_4.on h5
            have ok5_5 := ok54.on h5
            clear ok_4 rh_4 bx_4
            have cbx := bx_5.cell (j := 0) rfl
            have hk5 := (B5.cell (by rw [block_of_add]; exact hlt)).trans HC.out
            have hj5 := (B5.cell (by rw [block_of_add]; exact hlp)).trans HD.out
            go_wp2_with fail
            refine (HSA _).mono ?_
            rintro e w6 ⟨rfl, h6⟩
            have B6 := B5.trans (h6.mono B5.size)
            have ok_6 := ok_5.on h6
            have rh_6 := rh_5.on h6
            have bx_6 := bx_5.on h6
            have ok5_6 := ok5_5.on h6
            clear ok_5 rh_5 bx_5 ok5_5
            have cbx := bx_6.cell (j := 0) rfl
            go_wp2_with fail
            go_ret
            exact ⟨rfl, B6⟩
          · go_enter Try.func9, Try.ntmps9
            go_wp2_with (with_reducible refine wpList_box_row (o := ⟨some 5, _, _, _, _, _⟩) rfl _ _ rfl ([.slice (some ad) n c]) rfl ?_; intro w1 bx_1 s1 g1; have k1 : Below w.heap.size w w1 := grown_below g1 (Nat.le_refl _) (by simp); have B1 : Below w.heap.size w w1 := k1; have ok_1 := hok.on k1; have rh_1 := hh.on k1; have cbx := bx_1.cell (j := 0) rfl)
            refine ((HV _ ok_1).out).mono ?_
            rintro e w2 ⟨rfl, h2⟩
            have B2 := B1.trans (h2.mono B1.size)
            have ok_2 := ok_1.on h2
            have rh_2 := rh_1.on h2
            have bx_2 := bx_1.on h2
            clear ok_1 rh_1 bx_1
            have cbx := bx_2.cell (j := 0) rfl
            go_wp2_with fail
            refine ((HX _ ok_2).out).mono ?_
            rintro e w3 ⟨rfl, h3⟩
            have B3 := B2.trans (h3.mono B2.size)
            have ok_3 := ok_2.on h3
            have rh_3 := rh_2.on h3
            have bx_3 := bx_2.on h3
            clear ok_2 rh_2 bx_2
            have cbx := bx_3.cell (j := 0) rfl
            go_wp2_with fail
            refine ((HH _ ok_3 rh_3).out).mono ?_
            rintro e w4 ⟨A5, n5, c5, ps5, rfl, ok54, hb5, h4⟩
            have B4 := B3.trans (h4.mono B3.size)
            have ok_4 := ok_3.on h4
            have rh_4 := rh_3.on h4
            have bx_4 := bx_3.on h4
            clear ok_3 rh_3 bx_3
            have cbx := bx_4.cell (j := 0) rfl
            have HB5 := Lib.hid hb5
            clear hb5
            unfold fuv
            go_wp2_with fail
            refine ((HR _ A5 n5 c5 ps5 ok54 HB5.out).out).mono ?_
            rintro e w5 ⟨rfl, h5⟩
            have B5 := B4.trans (h5.mono B4.size)
            have ok_5 := ok_4.on h5
            have rh_5 := rh_4.on h5
            have bx_5 := bx_4.on h5
            have ok5_5 := ok54.on h5
            clear ok_4 rh_4 bx_4
            have cbx := bx_5.cell (j := 0) rfl
            have hk5 := (B5.cell (by rw [block_of_add]; exact hlt)).trans HC.out
            have hj5 := (B5.cell (by rw [block_of_add]; exact hlp)).trans HD.out
            go_wp2_with fail
            refine (HSA _).mono ?_
            rintro e w6 ⟨rfl, h6⟩
            have B6 := B5.trans (h6.mono B5.size)
            have ok_6 := ok_5.on h6
            have rh_6 := rh_5.on h6
            have bx_6 := bx_5.on h6
            have ok5_6 := ok5_5.on h6
            clear ok_5 rh_5 bx_5 ok5_5
            have cbx := bx_6.cell (j := 0) rfl
            go_wp2_with fail
            go_ret
            exact ⟨rfl, B6⟩
end Go.Proofs.Ytliaapgnknbmbaa
