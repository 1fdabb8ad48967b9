/-
  What slices.Equal returns at lists of digests: a contract by a walk. No condition but bounded lengths.
-/
import Derived.Test.YtfmcgcdppbcfjaaDoorCmp
import Derived.Deep.LoopGhost
namespace Go.Proofs.YtfmcgcdppbcfjaaDoor
open Go.RowKit

set_option maxRecDepth 100000 in
set_option maxHeartbeats 400000 in
theorem tequal_any (A B : Option Addr) (c d : Nat) (l k : List (List UInt8)) (n m : Nat) (w : World) (C D : Nat) (hl : Reads w C 16 A n (bvs l.flatten)) (hk : Reads w D 16 B m (bvs k.flatten)) (h16l : Len16 l) (h16k : Len16 k) (hn : n ≤ 4611686018427387903) (hm : m ≤ 4611686018427387903) :
    Calls Tryd.prog 38 #[.slice A n c, .slice B m d] w (Tells (l == k) w) := by
  have HL := Lib.hid (hl.digs_len h16l)
  have HK := Lib.hid (hk.digs_len h16k)
  have L16 := Lib.hid h16l
  have K16 := Lib.hid h16k
  clear h16l h16k
  by_cases hnm : n = m
  · subst hnm
    go_enter Tryd.func38, Tryd.ntmps38
    go_wp2_with fail
    go_loopg [5, 13] n (fun g s5 i wr => ∃ j q : Nat, Hid (j + g = n) ∧ j ≤ n ∧ i = .int .i64 j ∧ wr = w.drewN q ∧ Hid (l.take j = k.take j))
    case atStart => exact ⟨0, 0, by show _ = _; omega, by omega, rfl, rfl, rfl⟩
    case round =>
      obtain ⟨j, q, HJ, hj, rfl, rfl, HT⟩ := hrel
      by_cases hlt : j < n
      · obtain ⟨ad, x, rfl, _, hx, hdx, hcx⟩ := hl.dig_at L16.out hlt
        obtain ⟨bd, y, rfl, _, hy, hdy, hcy⟩ := hk.dig_at K16.out hlt
        have HCX := Lib.hid hcx
        have HCY := Lib.hid hcy
        have HDX := Lib.hid hdx
        have HDY := Lib.hid hdy
        clear hcx hcy hdx hdy
        have HX := Lib.hid hx
        have HY := Lib.hid hy
        clear hx hy
        by_cases hxy : x = y
        · have hd : (x == y) = true := by rw [hxy]; simp
          have HXY := Lib.hid hxy
          clear hxy
          go_wp2_with fail
          refine wp_region_quiet_lit (by kernel_rfl) (by kernel_rfl) ?_
          repeat (first
            | (refine wpQuiet_valueK (o := ⟨some 19, _, _, _, _, _⟩) rfl _ (by rintro _ ⟨nn, rfl⟩; exact exec_load _ _ _ rfl _ rfl (bvs x) (fun j u hu => by rw [add_of_add]; exact HCX.out j u hu) _ Tryd.underlying23 rfl (dig_size HDX.out)) (fun K hK => ?_); go_simp; refine hK _ ?_; clear hK K)
            | (refine wpQuiet_valueK (o := ⟨some 23, _, _, _, _, _⟩) rfl _ (by rintro _ ⟨nn, rfl⟩; exact exec_load _ _ _ rfl _ rfl (bvs y) (fun j u hu => by rw [add_of_add]; exact HCY.out j u hu) _ Tryd.underlying23 rfl (dig_size HDY.out)) (fun K hK => ?_); go_simp; refine hK _ ?_; clear hK K)
            | (refine wpQuiet_valueK (o := ⟨some 24, _, _, _, _, _⟩) rfl _ (by rintro _ ⟨nn, rfl⟩; exact exec_neq_bytes _ _ _ 5 16 _ _ rfl Tryd.underlying23 Tryd.underlying5 size_u8 dig_guard x y HDX.out HDY.out rfl rfl) (fun K hK => ?_); go_simp; refine hK _ ?_; clear hK K)
            | go_big_quiet_step (fail))
          refine wpQuiet_nil ?_
          intro _ hw'
          obtain ⟨nq, hw''⟩ := hw'
          subst hw''
          go_wp2_with fail
          go_roundg (gk - 1)
          case measure => have := HJ.out; omega
          case rel =>
            refine ⟨j + 1, q + nq, ?_, by omega, by go_num, by simp, take_eq_snoc HX.out HY.out HT.out HXY.out⟩
            have := HJ.out; show _ = _; omega
        · have hd : (x == y) = false := by simp only [beq_eq_false_iff_ne, ne_eq]; exact hxy
          have HXY := Lib.hid hxy
          clear hxy
          go_wp2_with fail
          refine wp_region_quiet_lit (by kernel_rfl) (by kernel_rfl) ?_
          repeat (first
            | (refine wpQuiet_valueK (o := ⟨some 19, _, _, _, _, _⟩) rfl _ (by rintro _ ⟨nn, rfl⟩; exact exec_load _ _ _ rfl _ rfl (bvs x) (fun j u hu => by rw [add_of_add]; exact HCX.out j u hu) _ Tryd.underlying23 rfl (dig_size HDX.out)) (fun K hK => ?_); go_simp; refine hK _ ?_; clear hK K)
            | (refine wpQuiet_valueK (o := ⟨some 23, _, _, _, _, _⟩) rfl _ (by rintro _ ⟨nn, rfl⟩; exact exec_load _ _ _ rfl _ rfl (bvs y) (fun j u hu => by rw [add_of_add]; exact HCY.out j u hu) _ Tryd.underlying23 rfl (dig_size HDY.out)) (fun K hK => ?_); go_simp; refine hK _ ?_; clear hK K)
            | (refine wpQuiet_valueK (o := ⟨some 24, _, _, _, _, _⟩) rfl _ (by rintro _ ⟨nn, rfl⟩; exact exec_neq_bytes _ _ _ 5 16 _ _ rfl Tryd.underlying23 Tryd.underlying5 size_u8 dig_guard x y HDX.out HDY.out rfl rfl) (fun K hK => ?_); go_simp; refine hK _ ?_; clear hK K)
            | go_big_quiet_step (fail))
          refine wpQuiet_nil ?_
          intro _ hw'
          obtain ⟨nq, hw''⟩ := hw'
          subst hw''
          go_wp2_with fail
          go_ret
          refine ⟨?_, q + nq, by simp⟩
          have := ne_at HX.out HY.out HXY.out
          simp [this]
      · have hjn : j = n := by omega
        have HJN := Lib.hid hjn
        clear hjn
        go_wp2_with fail
        go_ret
        refine ⟨?_, q, rfl⟩
        have h := HT.out
        rw [HJN.out, List.take_of_length_le (by rw [HL.out]; exact Nat.le_refl _), List.take_of_length_le (by rw [HK.out]; exact Nat.le_refl _)] at h
        simp [h]
  · have hd : ((n : Int) != (m : Int)) = true := by simp only [bne_iff_ne, ne_eq]; omega
    have HNM := Lib.hid hnm
    clear hnm
    go_enter Tryd.func38, Tryd.ntmps38
    go_wp2_with fail
    go_ret
    refine ⟨?_, 0, rfl⟩
    have : l ≠ k := by rintro rfl; exact HNM.out (HL.out.symm.trans HK.out)
    simp [this]
end Go.Proofs.YtfmcgcdppbcfjaaDoor
