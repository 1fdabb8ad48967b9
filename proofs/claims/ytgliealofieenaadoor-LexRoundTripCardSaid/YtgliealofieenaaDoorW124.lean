/-
  LexRoundTrip returns true: by walks. No condition.
-/
import Derived.Test.YtgliealofieenaaDoorSan12
import Derived.Test.YtgliealofieenaaDoorLxJ
set_option linter.unusedSimpArgs false
set_option linter.unusedVariables false
namespace Go.Proofs.YtgliealofieenaaDoor
open Go.RowKit

theorem trip {s : ByteArray} {ts : List Tk} (h : lxAll s = some ts) : ∃ us, lxAll (mk (shw ts)) = some us ∧ Als ts us ∧ shw us = shw ts := by
  obtain ⟨us, h1, h2⟩ := lx_shw ts (lx_ok _ _ _ _ h)
  exact ⟨us, by unfold lxAll; rw [tl_mk]; exact h1, h2, (shw_al h2).symm⟩
theorem Als.mem : ∀ {l m : List Tk}, Als l m → ∀ u ∈ m, ∃ t ∈ l, t.t = u.t
  | [], [], _, u, hu => by cases hu
  | a :: l, b :: m, h, u, hu => by
    rcases List.mem_cons.1 hu with rfl | hu
    · exact ⟨a, by simp, h.1.2.1⟩
    · obtain ⟨t, ht, he⟩ := h.2.mem u hu
      exact ⟨t, by simp [ht], he⟩
set_option maxRecDepth 100000 in
set_option maxHeartbeats 8000000 in
theorem w124_any (s : ByteArray) (w : World) (hs : s.size ≤ 9223372036854775807) (hK : Sgs w) : Calls Tryd.prog 6 #[.string s] w (TellsB true w) := by
  have HSA := Lib.hid (san12_any w hK)
  have HK := Lib.hid hK
  clear hK
  unfold TellsB at *
  by_cases hbig : 600 < s.size
  · have q : decide ((600 : Int) < (s.size : Int)) = true := decide_eq_true (by omega)
    go_enter Tryd.func6, Tryd.ntmps6
    go_wp2_with fail
    refine HSA.out.mono ?_
    rintro e w1 ⟨rfl, b1⟩
    go_wp2_with fail
    go_ret
    exact ⟨rfl, b1⟩
  · have q : decide ((600 : Int) < (s.size : Int)) = false := decide_eq_false (by omega)
    have HT1 := fun W hW => Lib.hid (tokens_any s W (by omega) hW)
    cases hl : lxAll s with
    | none =>
      obtain ⟨h1, h2⟩ := tk_none hl
      rw [h1, h2] at HT1
      clear hl h1 h2
      go_enter Tryd.func6, Tryd.ntmps6
      go_wp2_with fail
      refine HSA.out.mono ?_
      rintro e w1 ⟨rfl, b1⟩
      go_wp2_with fail
      refine (HT1 _ (HK.out.on b1)).out.mono ?_
      rintro e w2 ⟨A, n, c, rfl, r2, hnc, hn, b2⟩
      go_wp2_with fail
      go_ret
      exact ⟨rfl, b1.trans (b2.mono b1.size)⟩
    | some ts =>
      obtain ⟨h1, h2⟩ := tk_some hl
      rw [h1, h2] at HT1
      have hsm := lx_small hl
      rw [tl_len] at hsm
      obtain ⟨us, hu, hal, hsh⟩ := trip hl
      have HAL := Lib.hid hal
      have hX : (mk (shw ts)).size ≤ 1500 := by rw [mk_size]; omega
      have HSH := fun A n c W h (h1 : n ≤ 1000) => Lib.hid (lshow_any A n c ts W h h1 (fun t ht => by have := hsm.2.1 t ht; omega))
      have HSU := fun A n c W h (h1 : n ≤ 1000) => Lib.hid (lshow_any A n c us W h h1 (fun u hu => by
        obtain ⟨t, ht, he⟩ := hal.mem u hu
        rw [← he]
        have := hsm.2.1 t ht; omega))
      rw [hsh] at HSU
      obtain ⟨h3, h4⟩ := tk_some hu
      have HT2 := fun W hW => Lib.hid (tokens_any (mk (shw ts)) W hX hW)
      rw [h3, h4] at HT2
      have hts : ts.length ≤ 600 := by omega
      have hus : us.length ≤ 600 := by rw [← hal.len]; exact hts
      generalize mk (shw ts) = X at *
      have qx : (X.toList == X.toList) = true := by simp
      clear hl h1 h2 h3 h4 hu hal hsh hsm
      go_enter Tryd.func6, Tryd.ntmps6
      go_wp2_with fail
      refine HSA.out.mono ?_
      rintro e w1 ⟨rfl, b1⟩
      go_wp2_with fail
      refine (HT1 _ (HK.out.on b1)).out.mono ?_
      rintro e w2 ⟨A, n, c, rfl, r2, hnc, hn, b2⟩
      have B2 := b1.trans (b2.mono b1.size)
      have hn6 : n ≤ 600 := by rw [← r2.tk_len]; exact hts
      go_wp2_with fail
      refine (HSH A n c w2 r2 (by omega)).out.mono ?_
      rintro e w3 ⟨rfl, b3⟩
      have B3 := B2.trans (b3.mono B2.size)
      have r3 := r2.on b3
      go_wp2_with fail
      refine (HT2 _ (HK.out.on B3)).out.mono ?_
      rintro e w4 ⟨A4, n4, c4, rfl, u4, hnc4, hn4, b4⟩
      have B4 := B3.trans (b4.mono B3.size)
      have r4 := r3.on b4
      have hm6 : n4 ≤ 600 := by rw [← u4.tk_len]; exact hus
      have HLK := Lib.hid (ralike_any A A4 n c n4 c4 ts us w4 r4 u4 HAL.out (by omega))
      go_wp2_with fail
      refine HLK.out.mono ?_
      rintro e w5 ⟨rfl, b5⟩
      have B5 := B4.trans (b5.mono B4.size)
      have u5 := u4.on b5
      go_wp2_with fail
      refine (HSU A4 n4 c4 w5 u5 (by omega)).out.mono ?_
      rintro e w6 ⟨rfl, b6⟩
      have B6 := B5.trans (b6.mono B5.size)
      go_wp2_with fail
      go_ret
      exact ⟨rfl, B6⟩
end Go.Proofs.YtgliealofieenaaDoor
